import Derived.Test.YtdpegcimhhegmaaStA
import Derived.OwnWalk
import Derived.Test.YtdpegcimhhegmaaMoreA
set_option linter.unusedVariables false
set_option linter.unusedSimpArgs false
set_option linter.unusedSectionVars false
section
set_option maxRecDepth 100000
namespace Go.Ev.Gas
open Go.RowKit Go.Ev.Num Go.Proofs
theorem info28 : (Try.prog.info? 28).map (fun i => (i.zero, i.size, i.bytes)) = some (some (.agg #[vi 0, vi 0, vi 0, vi 0, vi 0, vi 0, vi 0, vi 0]), 8, 64) := by kernel_rfl
/-- The states behind the operations, one after the other. -/
def stF (c s : Nat → Int) (O : Nat → Nat → Int) (i j : Nat) : Int := sts c s O (i + 1) j
theorem news8 (w : World) (a : Nat → Int) (x : Nat) (hx : w.heap.size = x) : ∀ (q : Nat) (u : Value), [vi (a 0), vi (a 1), vi (a 2), vi (a 3), vi (a 4), vi (a 5), vi (a 6), vi (a 7)][q]? = some u →
    (w.alloc (.cells #[vi (a 0), vi (a 1), vi (a 2), vi (a 3), vi (a 4), vi (a 5), vi (a 6), vi (a 7)] 28)).cell? ((⟨x, 0, none⟩ : Addr).add q) = some u := by
  intro q u hq
  subst hx
  have h : St8 (w.alloc (.cells #[vi (a 0), vi (a 1), vi (a 2), vi (a 3), vi (a 4), vi (a 5), vi (a 6), vi (a 7)] 28)) w.heap.size a := heap_alloc_new w _
  rw [Addr.add_mid, Nat.zero_add]
  match q, hq with
  | 0, hq => cases hq; exact h.cell 0 (by omega)
  | 1, hq => cases hq; exact h.cell 1 (by omega)
  | 2, hq => cases hq; exact h.cell 2 (by omega)
  | 3, hq => cases hq; exact h.cell 3 (by omega)
  | 4, hq => cases hq; exact h.cell 4 (by omega)
  | 5, hq => cases hq; exact h.cell 5 (by omega)
  | 6, hq => cases hq; exact h.cell 6 (by omega)
  | 7, hq => cases hq; exact h.cell 7 (by omega)
  | q + 8, hq => simp at hq
/-- What a round leaves ahead of its store. -/
theorem rel77 {B base : Nat} {wa wr w2 w1 : World} {O1 R2 R3 : Obj} {v : Value} {n : Nat} {xs : List Value} {a a' : Nat → Int} (hB : B < base) (hbase : base ≤ wr.heap.size) (hbel : Below B wa wr) (hown : wr.ownsRow base 28 8 v n xs) (h8 : St8 wr B a) (hb2 : Below (wr.alloc O1).heap.size (wr.alloc O1) w2)
    (hgrow : (((w2.alloc (.cells (arr8 a') 28)).alloc R2).alloc R3).grownBy w1 v.ownBlock) : St8 w1 B a ∧ St8 w1 w2.heap.size a' ∧ Below B wa w1 ∧ w2.heap.size + 3 ≤ w1.heap.size ∧ wr.heap.size < w2.heap.size := by
  have hz := hb2.size
  simp at hz
  have hlt := hown.lt
  have e1 : St8 (((w2.alloc (.cells (arr8 a') 28)).alloc R2).alloc R3) B a := ((((h8.alloc _).below hb2).alloc _).alloc _).alloc _
  have e2 : St8 (((w2.alloc (.cells (arr8 a') 28)).alloc R2).alloc R3) w2.heap.size a' := by
    have : St8 (w2.alloc (.cells (arr8 a') 28)) w2.heap.size a' := heap_alloc_new w2 _
    exact (this.alloc _).alloc _
  have hs := hgrow.size
  simp at hs
  refine ⟨e1.grown hgrow ?_, e2.grown hgrow ?_, ?_, by omega, by omega⟩
  · intro h
    have := hlt B h.symm
    omega
  · intro h
    have := hlt _ h.symm
    omega
  · have b1 : Below B wa (((w2.alloc (.cells (arr8 a') 28)).alloc R2).alloc R3) :=
      (((((hbel.alloc (by omega) O1).trans (hb2.mono (by simp; omega))).alloc (by omega) _).alloc (by simp; omega) _).alloc (by simp; omega) _)
    refine b1.grown hgrow (by simp; omega) fun k hk => ?_
    have := hlt k hk
    omega
set_option maxHeartbeats 4000000 in
theorem steps77_some (c s : Nat → Int) (b off n cap : Nat) (O : Nat → Nat → Int) (k : Nat) (w : World) (hn : n ≤ 20) (hnc : n ≤ cap) (hb : b < w.heap.size) (hS : SLAt 10 w b off n O) (hc : cavP c) (hs : StI s) (hO : ∀ i, i < n → opOk (O i)) (hk : Stop c s O n k) (r : Int) (hr : r = if k = n then -1 else (k : Int)) :
    Calls Try.prog 77 #[.agg #[vi (c 0), vi (c 1), vi (c 2), vi (c 3), vi (c 4), vi (c 5), vi (c 6), vi (c 7), vi (c 8), vi (c 9), vi (c 10)], .agg #[vi (s 0), vi (s 1), vi (s 2), vi (s 3), vi (s 4), vi (s 5), vi (s 6), vi (s 7)], .slice (some ⟨b, off, none⟩) n cap] w fun e w' => ∃ v, e = .returned (.tuple #[v, .int .i64 r]) ∧ w'.ownsRow (w.heap.size + 2) 28 8 v k (rowOf 8 (stF c s O) k) ∧ (k = 0 → v = .slice none 0 0) ∧ Below w.heap.size w w' := by
  obtain ⟨i0, hi, hz0, hz1, hz2⟩ := info_parts info28
  obtain ⟨hkn, hyes, hno⟩ := hk
  have HT : Hid (∀ j, j < k → ∃ g : Nat → Int, Ret 68 #[cavV c, sV (sts c s O j), oV (O j)] (ansV (sts c s O (j + 1)) g (.bool true))) := Lib.hid (fun j hj => ⟨_, do68 hc (sts_in hc hs j fun i hi => ⟨hO i (by omega), hyes i (by omega)⟩) (hO j (by omega)) (hyes j hj)⟩)
  have HF := Lib.hid (fun (hlt : k < n) => no68 hc (sts_in hc hs k fun i hi => ⟨hO i (by omega), hyes i hi⟩) (hO k hlt) (hno hlt))
  have HS := Lib.hid hS
  have HR := Lib.hid hr
  clear hyes hno hS hr hO hc hs
  simp only [Ret, cavV, sV, oV, ansV, gV] at HT HF
  go_enter Try.func77, Try.ntmps77
  go_wp2
  go_loopw [8, 16] (fun v i wr => ∃ j : Nat, j ≤ k ∧ i = .int .i64 j ∧ wr.ownsRow (w.heap.size + 2) 28 8 v j (rowOf 8 (stF c s O) j) ∧ (j = 0 → v = .slice none 0 0) ∧ St8 wr (w.heap.size + 1) (sts c s O j) ∧ Below (w.heap.size + 1) ((w.alloc (.cells #[vi (c 0), vi (c 1), vi (c 2), vi (c 3), vi (c 4), vi (c 5), vi (c 6), vi (c 7), vi (c 8), vi (c 9), vi (c 10)] 98)).alloc (.cells #[vi (s 0), vi (s 1), vi (s 2), vi (s 3), vi (s 4), vi (s 5), vi (s 6), vi (s 7)] 28)) wr) (fun _ i _ => n - (intOf i).toNat)
  case atStart =>
    refine ⟨0, Nat.zero_le _, rfl, World.ownsRow_nil _ _ _ _, fun _ => rfl, ?_, Below.refl _ _⟩
    have := heap_alloc_new (w.alloc (.cells #[vi (c 0), vi (c 1), vi (c 2), vi (c 3), vi (c 4), vi (c 5), vi (c 6), vi (c 7), vi (c 8), vi (c 9), vi (c 10)] 98)) (.cells #[vi (s 0), vi (s 1), vi (s 2), vi (s 3), vi (s 4), vi (s 5), vi (s 6), vi (s 7)] 28)
    simpa [St8, arr8, sts] using this
  case round =>
    obtain ⟨j, hj, rfl, hown, hnil, h8, hbel⟩ := hrel
    have hcr : ∀ o, wr.cell? ⟨w.heap.size, o, none⟩ = ((w.alloc (.cells #[vi (c 0), vi (c 1), vi (c 2), vi (c 3), vi (c 4), vi (c 5), vi (c 6), vi (c 7), vi (c 8), vi (c 9), vi (c 10)] 98)).alloc (.cells #[vi (s 0), vi (s 1), vi (s 2), vi (s 3), vi (s 4), vi (s 5), vi (s 6), vi (s 7)] 28)).cell? ⟨w.heap.size, o, none⟩ := fun o => hbel.cell (p := ⟨w.heap.size, o, none⟩) (by simp)
    have hz := hbel.size
    simp at hz
    by_cases hlt : j < n
    · have hrg := HS.out.range10 (w' := wr) (fun o => (hbel.cell (p := ⟨b, o, none⟩) (by show b < _; omega)).trans ((World.cell?_alloc_past _ _ _ (by simp; omega)).trans (World.cell?_alloc_past _ _ _ hb))) j hlt
      have d8 := h8.cell
      have d0 := d8 0 (by omega)
      have d1 := d8 1 (by omega)
      have d2 := d8 2 (by omega)
      have d3 := d8 3 (by omega)
      have d4 := d8 4 (by omega)
      have d5 := d8 5 (by omega)
      have d6 := d8 6 (by omega)
      have d7 := d8 7 (by omega)
      clear d8
      have dz := h8.frz
      have m0 : w.heap.size < wr.heap.size := by omega
      have m1 : w.heap.size + 1 < wr.heap.size := by omega
      by_cases hjk : j < k
      · go_wp2_with (refine wpList_load_mid rfl 55 (.tmp 19) rfl b (off + j * 10) rfl _ _ hrg Try.underlying55 rfl (by kernel_rfl) ?_)
        obtain ⟨g, hg⟩ := HT.out j hjk
        refine (hg _).mono ?_
        rintro e w2 ⟨rfl, hb2⟩
        have hown2 := own_below (hown.alloc _) hb2
        have h82 := (h8.alloc _).below hb2
        have hz2' := hb2.size
        simp at hz2'
        clear hg hcr dz d0 d1 d2 d3 d4 d5 d6 d7
        go_wp2_with (at_builtin; refine wpList_append_own _ rfl (.tmp 33) (.tmp 35) 69 rfl (w.heap.size + 2) 28 i0 (.agg #[vi 0, vi 0, vi 0, vi 0, vi 0, vi 0, vi 0, vi 0]) 8 64 Try.underlying69 hi hz0 hz1 hz2 rfl (by decide) _ _ _ rfl (((hown2.alloc _).alloc _).alloc _) ⟨w2.heap.size + 1 + 1, 0, none⟩ 1 1 [vi (sts c s O (j + 1) 0), vi (sts c s O (j + 1) 1), vi (sts c s O (j + 1) 2), vi (sts c s O (j + 1) 3), vi (sts c s O (j + 1) 4), vi (sts c s O (j + 1) 5), vi (sts c s O (j + 1) 6), vi (sts c s O (j + 1) 7)] rfl rfl ?c1 ?c2 ?c3 ?c4 ?c5 ?_)
        case c1 => exact news8 _ (sts c s O (j + 1)) _ (by simp)
        case c2 => intro u hu; simp at hu; rcases hu with rfl | rfl | rfl | rfl | rfl | rfl | rfl | rfl <;> rfl
        case c3 => unfold maxLen; omega
        case c4 => omega
        case c5 => simp; omega
        intro v' w1 hown' hgrow _
        have R := rel77 (a' := sts c s O (j + 1)) (show w.heap.size + 1 < w.heap.size + 2 by omega) (by omega) hbel hown h8 hb2 hgrow
        have x0 : w1.cell? ⟨w2.heap.size, 0, none⟩ = some (.int .i64 (sts c s O (j + 1) 0)) := R.2.1.cell 0 (by omega)
        have x1 : w1.cell? ⟨w2.heap.size, 1, none⟩ = some (.int .i64 (sts c s O (j + 1) 1)) := R.2.1.cell 1 (by omega)
        have x2 : w1.cell? ⟨w2.heap.size, 2, none⟩ = some (.int .i64 (sts c s O (j + 1) 2)) := R.2.1.cell 2 (by omega)
        have x3 : w1.cell? ⟨w2.heap.size, 3, none⟩ = some (.int .i64 (sts c s O (j + 1) 3)) := R.2.1.cell 3 (by omega)
        have x4 : w1.cell? ⟨w2.heap.size, 4, none⟩ = some (.int .i64 (sts c s O (j + 1) 4)) := R.2.1.cell 4 (by omega)
        have x5 : w1.cell? ⟨w2.heap.size, 5, none⟩ = some (.int .i64 (sts c s O (j + 1) 5)) := R.2.1.cell 5 (by omega)
        have x6 : w1.cell? ⟨w2.heap.size, 6, none⟩ = some (.int .i64 (sts c s O (j + 1) 6)) := R.2.1.cell 6 (by omega)
        have x7 : w1.cell? ⟨w2.heap.size, 7, none⟩ = some (.int .i64 (sts c s O (j + 1) 7)) := R.2.1.cell 7 (by omega)
        have y0 : w1.cell? ⟨w.heap.size + 1, 0, none⟩ = some (.int .i64 (sts c s O j 0)) := R.1.cell 0 (by omega)
        have y1 : w1.cell? ⟨w.heap.size + 1, 1, none⟩ = some (.int .i64 (sts c s O j 1)) := R.1.cell 1 (by omega)
        have y2 : w1.cell? ⟨w.heap.size + 1, 2, none⟩ = some (.int .i64 (sts c s O j 2)) := R.1.cell 2 (by omega)
        have y3 : w1.cell? ⟨w.heap.size + 1, 3, none⟩ = some (.int .i64 (sts c s O j 3)) := R.1.cell 3 (by omega)
        have y4 : w1.cell? ⟨w.heap.size + 1, 4, none⟩ = some (.int .i64 (sts c s O j 4)) := R.1.cell 4 (by omega)
        have y5 : w1.cell? ⟨w.heap.size + 1, 5, none⟩ = some (.int .i64 (sts c s O j 5)) := R.1.cell 5 (by omega)
        have y6 : w1.cell? ⟨w.heap.size + 1, 6, none⟩ = some (.int .i64 (sts c s O j 6)) := R.1.cell 6 (by omega)
        have y7 : w1.cell? ⟨w.heap.size + 1, 7, none⟩ = some (.int .i64 (sts c s O j 7)) := R.1.cell 7 (by omega)
        have yz := R.1.frz
        have mz : w2.heap.size < w1.heap.size := by omega
        have ne : ¬ w2.heap.size = w.heap.size + 1 := by omega
        clear hown hown2 h82 hb2 hgrow h8 hrg
        go_wp2
        go_roundw
        case rel =>
          refine ⟨j + 1, by omega, by go_num, own_set8 hown' (by omega) (sts c s O (j + 1)), fun h => absurd h (by omega), set8_row R.1, set8_below R.2.2.1 (by omega) (sts c s O (j + 1))⟩
        case measure => simp [intOf]; omega
      · have e : j = k := by omega
        subst e
        go_wp2_with (refine wpList_load_mid rfl 55 (.tmp 19) rfl b (off + j * 10) rfl _ _ hrg Try.underlying55 rfl (by kernel_rfl) ?_)
        refine (HF.out hlt _).mono ?_
        rintro e w2 ⟨rfl, hb2⟩
        have hown2 := own_below (hown.alloc _) hb2
        have hz2' := hb2.size
        simp at hz2'
        go_wp2
        go_ret2
        have hr' : r = (j : Int) := by rw [HR.out, if_neg (by omega)]
        refine ⟨_, by rw [hr']; rfl, (hown2.alloc _).alloc _, hnil, ?_⟩
        exact ((((((Below.refl w.heap.size w).alloc (Nat.le_refl _) _).alloc (by simp) _).trans (hbel.mono (by omega))).alloc (by omega) _).trans (hb2.mono (by simp; omega))).alloc (by omega) _ |>.alloc (by simp; omega) _
    · have e : j = n := by omega
      subst e
      have e : k = j := by omega
      subst e
      go_wp2
      go_ret2
      have hr' : r = -1 := by rw [HR.out]; simp
      exact ⟨_, by rw [hr']; rfl, hown, hnil, (((Below.refl w.heap.size w).alloc (Nat.le_refl _) _).alloc (by simp) _).trans (hbel.mono (by omega))⟩
end Go.Ev.Gas
end

noncomputable section
set_option maxRecDepth 1000000
set_option maxHeartbeats 100000
namespace Go.Ev.Gas
open Go.RowKit Go.Ev.Num
/-! ### Runs of GasSteps: a list of n operations, of which k are done -/
noncomputable def tN (b m : Nat) : List (AV plain) := (List.range m).map fun q => rv (b + q)
noncomputable def oX (i : Nat) : AV plain := .agg (tN (100 + 10 * i) 10)
noncomputable def sX : Nat → AV plain
  | 0 => stA
  | i + 1 => .agg (tN (300 + 8 * i) 8)
noncomputable def gX (i : Nat) : AV plain := .agg (tN (500 + 6 * i) 6)
noncomputable def aX : AV plain := .agg (tN 600 8)
noncomputable def rowsX (n : Nat) : List (AV plain) := (List.range n).flatMap fun i => tN (100 + 10 * i) 10
noncomputable def kB (f : Nat) (a : AV plain) (b : Bool) : KC := { f := f, args := [a], res := .ret (.bool b) }
noncomputable def kDoX (f i : Nat) : KC := { f := f, args := [cavA, sX i, oX i], res := .ret (.tuple [sX (i + 1), gX i, .bool true]) }
noncomputable def kNoX (f i : Nat) (a : AV plain) : KC := { f := f, args := [cavA, sX i, oX i], res := .ret (.tuple [a, z6A, .bool false]) }
noncomputable def tHead : List KC := [k21, kB 54 cavA true, kB 55 stA true, kB 19 cavA true, kB 20 stA true]
noncomputable def tOps (n : Nat) : List KC := (List.range n).flatMap fun i => [kB 67 (oX i) true, kB 30 (oX i) true]
noncomputable def tDo (k : Nat) : List KC := (List.range k).flatMap fun i => [kDoX 68 i, kDoX 31 i]
noncomputable def tEnd : Bool → Nat → List KC
  | true, k => [kNoX 68 k z8A, kNoX 31 k aX]
  | false, _ => []
noncomputable def tAll (n k : Nat) : List KC := tDo k ++ (tEnd (Nat.blt k n) k ++ (tOps n ++ tHead))
/-- The numbers of the states, and of the operations. -/
def sz (z : Nat → Int) : Nat → Nat → Int
  | 0, q => z (11 + q)
  | i + 1, q => z (300 + 8 * i + q)
def oz (z : Nat → Int) (i q : Nat) : Int := z (100 + 10 * i + q)
/-- The numbers are those of n operations, of which k are done. -/
structure GoodX (n k : Nat) (z : Nat → Int) : Prop where
  kn : k ≤ n
  hc : cavP z
  hs : StI (sz z 0)
  ho : ∀ i, i < n → opOk (oz z i)
  can : ∀ i, i < k → canO z (sz z i) (oz z i)
  st : ∀ i, i < k → ∀ q, q < 8 → z (300 + 8 * i + q) = aftO z (sz z i) (oz z i) q
  go : ∀ i, i < k → ∀ q, q < 6 → z (500 + 6 * i + q) = gonO z (sz z i) (oz z i) q
  no : k < n → ¬ canO z (sz z k) (oz z k)
  na : k < n → Gives (Fence.there P) 31 #[cavV z, sV (sz z k), oV (oz z k)] (ansV (fun q => z (600 + q)) zeros (.bool false)) ∧ ∀ q, q < 8 → 0 ≤ z (600 + q) ∧ z (600 + q) ≤ 200000000000
def HX (n k : Nat) (o : Nat → Value) : Prop := GoodX n k (zo o)
noncomputable def gX0 (p : (Nat → Value) → Prop) : Ctx := ⟨[], cavL ++ stL, [], p⟩
noncomputable def k7X (n : Nat) : KC := { f := 7, obj := some (rowsX n), args := [cavA, stA, .slice 0 0 n 10 true], res := .ret (.bool true) }
noncomputable def okX (n k : Nat) : Bool := isRes (k7X n).res (runK P L true (tAll n k) [] (gX0 (HX n k)) (k7X n))
/-! ### Their contracts hold -/
theorem StI.congr {a b : Nat → Int} (h : StI a) (e : ∀ q, q < 8 → b q = a q) : StI b := by
  unfold StI at *
  rw [e 0 (by omega), e 1 (by omega), e 2 (by omega), e 3 (by omega), e 4 (by omega), e 5 (by omega), e 6 (by omega), e 7 (by omega)]
  exact h
theorem GoodX.sti {n k : Nat} {z : Nat → Int} (h : GoodX n k z) : ∀ i, i ≤ k → StI (sz z i)
  | 0, _ => h.hs
  | i + 1, hi => (aftO_in h.hc (h.sti i (by omega)) (h.ho i (by have := h.kn; omega)) (h.can i (by omega))).1.congr fun q hq => h.st i (by omega) q hq
theorem gives19 {c : Nat → Int} (hc : cavP c) : Gives (Fence.there P) 19 #[cavV c] (.bool true) :=
  gives_of (a := .bool true) (con_of_run (H := fun _ => True) (k := kT 19 cavA) fbT rfl no_k no_p (fun _ _ => trivial) r19) rfl rfl rfl c (holds_of (G := gCav) trivial (lts_cav hc) trivial trivial) _ (vrs_cons (vr_cav hc) vrs_nil)
theorem gives54 {c : Nat → Int} (hc : cavP c) : Gives (Fence.there P) 54 #[cavV c] (.bool true) :=
  gives_of (a := .bool true) (con_of_run (H := fun _ => True) (k := kT 54 cavA) fbT rfl no_k no_p (fun _ _ => trivial) r54) rfl rfl rfl c (holds_of (G := gCav) trivial (lts_cav hc) trivial trivial) _ (vrs_cons (vr_cav hc) vrs_nil)
theorem lts_gst {z : Nat → Int} (h : stP z) : gSt.holds (ov z) := holds_of (G := gSt) trivial (by simp only [stP] at h; exact ⟨h.1.2.1, h.2.1.2.1, h.2.2.1.2.1, h.2.2.2.2.1, trivial⟩) trivial trivial
theorem gives20 {z : Nat → Int} (h : stP z) : Gives (Fence.there P) 20 #[stV z] (.bool true) :=
  gives_of (a := .bool true) (con_of_run (H := fun _ => True) (k := kT 20 stA) fbT rfl no_k no_p (fun _ _ => trivial) r20) rfl rfl rfl z (lts_gst h) _ (vrs_cons (vr_st h) vrs_nil)
theorem gives55 {z : Nat → Int} (h : stP z) : Gives (Fence.there P) 55 #[stV z] (.bool true) :=
  gives_of (a := .bool true) (con_of_run (H := fun _ => True) (k := kT 55 stA) fbT rfl no_k no_p (fun _ _ => trivial) r55) rfl rfl rfl z (lts_gst h) _ (vrs_cons (vr_st h) vrs_nil)
theorem gives30 {o : Nat → Int} (h : opOk o) : Gives (Fence.there P) 30 #[oV o] (.bool true) := by
  rcases h with h | h | h
  · exact gives_of (a := .bool true) (con_of_run (H := fun _ => True) (k := kT 30 inA) fbT rfl no_k no_p (fun _ _ => trivial) r30a) rfl rfl rfl (zz zeros zeros o) (plain_holds _) _ (vrs_cons (vr_inj (m := 1000000) h (by simp only [op1] at h; omega) (by simp only [op1] at h; omega)) vrs_nil)
  · exact gives_of (a := .bool true) (con_of_run (H := fun _ => True) (k := kT 30 wiA) fbT rfl no_k no_p (fun _ _ => trivial) r30b) rfl rfl rfl (zz zeros zeros o) (plain_holds _) _ (vrs_cons (vr_wit (m := 2000000) h (by simp only [op2] at h; omega)) vrs_nil)
  · exact gives_of (a := .bool true) (con_of_run (H := fun _ => True) (k := kT 30 reA) fbT rfl no_k no_p (fun _ _ => trivial) r30c) rfl rfl rfl (zz zeros zeros o) (holds_of (G := gRe) trivial (by simp only [op3] at h; exact ⟨h.2.2.2.2.2.2.1.2.1, h.2.2.2.2.2.2.2.2.1, trivial⟩) trivial trivial) _ (vrs_cons (vr_rst h) vrs_nil)
theorem gives67 {o : Nat → Int} (h : opOk o) : Gives (Fence.there P) 67 #[oV o] (.bool true) := by
  rcases h with h | h | h
  · exact gives_of (a := .bool true) (con_of_run (H := fun _ => True) (k := kT 67 inA) fbT rfl no_k no_p (fun _ _ => trivial) r67a) rfl rfl rfl (zz zeros zeros o) (plain_holds _) _ (vrs_cons (vr_inj (m := 1000000) h (by simp only [op1] at h; omega) (by simp only [op1] at h; omega)) vrs_nil)
  · exact gives_of (a := .bool true) (con_of_run (H := fun _ => True) (k := kT 67 wiA) fbT rfl no_k no_p (fun _ _ => trivial) r67b) rfl rfl rfl (zz zeros zeros o) (plain_holds _) _ (vrs_cons (vr_wit (m := 2000000) h (by simp only [op2] at h; omega)) vrs_nil)
  · exact gives_of (a := .bool true) (con_of_run (H := fun _ => True) (k := kT 67 reA) fbT rfl no_k no_p (fun _ _ => trivial) r67c) rfl rfl rfl (zz zeros zeros o) (holds_of (G := gRe) trivial (by simp only [op3] at h; exact ⟨h.2.2.2.2.2.2.1.2.1, h.2.2.2.2.2.2.2.2.1, trivial⟩) trivial trivial) _ (vrs_cons (vr_rst h) vrs_nil)
/-- Both, with what stands for the answer. -/
theorem gives68 {c s o : Nat → Int} (hc : cavP c) (hs : StI s) (ho : opOk o) (h : canO c s o) {a g : Nat → Int} (ha : ∀ q, q < 8 → a q = aftO c s o q) (hg : ∀ q, q < 6 → g q = gonO c s o q) :
    Gives (Fence.there P) 68 #[cavV c, sV s, oV o] (ansV a g (.bool true)) ∧ Gives (Fence.there P) 31 #[cavV c, sV s, oV o] (ansV a g (.bool true)) ∧ Gives (Fence.there P) 29 #[cavV c, sV s, oV o] (ansV a g (vi 0)) := by
  have e : ∀ r, ansV a g r = ansV (aftO c s o) (gonO c s o) r := fun r => by unfold ansV; rw [sV_congr ha, gV_congr hg]
  rw [e, e]
  exact ⟨((do_all ((zz_cavP c s o).2 hc) ((zz_stP c s o).2 hs) ((zz_opP c s o).2 ho)).1 h).1, ref_can ((zz_cavP c s o).2 hc) ((zz_stP c s o).2 hs) ((zz_opP c s o).2 ho) h, ((do_all ((zz_cavP c s o).2 hc) ((zz_stP c s o).2 hs) ((zz_opP c s o).2 ho)).1 h).2⟩
theorem val_s (o : Nat → Value) : ∀ i, valOf o (sX i) = sV (sz (zo o) i)
  | 0 => rfl
  | i + 1 => rfl
theorem val_o (o : Nat → Value) (i : Nat) : valOf o (oX i) = oV (oz (zo o) i) := rfl
theorem val_st (o : Nat → Value) : valOf o stA = stV (zo o) := rfl
theorem val_c (o : Nat → Value) : valOf o cavA = cavV (zo o) := rfl
theorem pure_s : ∀ i, pureA (sX i) = true
  | 0 => rfl
  | _ + 1 => rfl
theorem free_s : ∀ i, (sX i).free = true
  | 0 => rfl
  | _ + 1 => rfl
theorem args_X (o : Nat → Value) (i : Nat) : valsOf o [cavA, sX i, oX i] = [cavV (zo o), sV (sz (zo o) i), oV (oz (zo o) i)] := by
  simp only [valsOf, val_s, val_o, val_c]
theorem bnd_tN {o : Nat → Value} {b : Nat} {m : Nat} (h : ∀ q, q < m → -9223372036854775808 ≤ zo o (b + q) ∧ zo o (b + q) ≤ 9223372036854775807) : bnds o (tN b m) := by
  have : ∀ (l : List Nat), (∀ q ∈ l, q < m) → bnds o (l.map fun q => rv (b + q)) := fun l => by
    induction l with
    | nil => intro _; trivial
    | cons q r ih => intro hl; exact ⟨h q (hl q (List.mem_cons_self ..)), ih fun x hx => hl x (List.mem_cons_of_mem _ hx)⟩
  exact this _ fun q hq => List.mem_range.1 hq
theorem sti_b {a : Nat → Int} (h : StI a) : ∀ q, q < 8 → -9223372036854775808 ≤ a q ∧ a q ≤ 9223372036854775807 := fun q hq => by
  unfold StI at h
  match q, hq with
  | 0, _ | 1, _ | 2, _ | 3, _ | 4, _ | 5, _ | 6, _ | 7, _ => omega
theorem xcon_do {n k i : Nat} (hi : i < k) : Con P (Fence.there P) (HX n k) (kDoX 68 i) ∧ Con P (Fence.there P) (HX n k) (kDoX 31 i) := by
  have key : ∀ o, HX n k o → (Gives (Fence.there P) 68 (valsOf o [cavA, sX i, oX i]).toArray (valOf o (.tuple [sX (i + 1), gX i, .bool true])) ∧ Gives (Fence.there P) 31 (valsOf o [cavA, sX i, oX i]).toArray (valOf o (.tuple [sX (i + 1), gX i, .bool true]))) ∧ bnd o (.tuple [sX (i + 1), gX i, .bool true]) := fun o h => by
    have h' : GoodX n k (zo o) := h
    have g := gives68 h'.hc (h'.sti i (by omega)) (h'.ho i (by have := h'.kn; omega)) (h'.can i hi) (h'.st i hi) (h'.go i hi)
    have bg := (aftO_in h'.hc (h'.sti i (by omega)) (h'.ho i (by have := h'.kn; omega)) (h'.can i hi)).2
    rw [args_X]
    refine ⟨⟨g.1, g.2.1⟩, ?_, ?_, trivial, trivial⟩
    · exact bnd_tN (sti_b (h'.sti (i + 1) (by omega)))
    · exact bnd_tN fun q hq => by rw [h'.go i hi q hq]; exact bg q
  refine ⟨con_val rfl rfl ?_ rfl fun o h => ⟨(key o h).1.1, (key o h).2⟩, con_val rfl rfl ?_ rfl fun o h => ⟨(key o h).1.2, (key o h).2⟩⟩ <;>
  · show (pureA cavA && (pureA (sX i) && (pureA (oX i) && true))) = true
    rw [pure_s]; rfl
theorem xcon_no {n k : Nat} (hk : k < n) : Con P (Fence.there P) (HX n k) (kNoX 68 k z8A) ∧ Con P (Fence.there P) (HX n k) (kNoX 31 k aX) := by
  refine ⟨con_val (a := .tuple [z8A, z6A, .bool false]) rfl rfl ?_ rfl fun o h => ?_, con_val (a := .tuple [aX, z6A, .bool false]) rfl rfl ?_ rfl fun o h => ?_⟩
  · show (pureA cavA && (pureA (sX k) && (pureA (oX k) && true))) = true
    rw [pure_s]; rfl
  · have h' : GoodX n k (zo o) := h
    show Gives _ 68 (valsOf o [cavA, sX k, oX k]).toArray _ ∧ _
    rw [args_X]
    exact ⟨((do_all ((zz_cavP (zo o) _ _).2 h'.hc) ((zz_stP _ (sz (zo o) k) _).2 (h'.sti k (Nat.le_refl _))) ((zz_opP _ _ (oz (zo o) k)).2 (h'.ho k hk))).2 (h'.no hk)).1, by unfold z8A z6A; simp only [bnd, bnds, Z]; simp⟩
  · show (pureA cavA && (pureA (sX k) && (pureA (oX k) && true))) = true
    rw [pure_s]; rfl
  · have h' : GoodX n k (zo o) := h
    show Gives _ 31 (valsOf o [cavA, sX k, oX k]).toArray _ ∧ _
    rw [args_X]
    refine ⟨(h'.na hk).1, bnd_tN fun q hq => ?_, ?_⟩
    · have := (h'.na hk).2 q hq; omega
    · unfold z6A; simp only [bnd, bnds, Z]; simp
theorem xcon_b {n k f : Nat} {a : AV plain} (hpa : pureA a = true) (h : ∀ o, HX n k o → Gives (Fence.there P) f #[valOf o a] (.bool true)) : Con P (Fence.there P) (HX n k) (kB f a true) :=
  con_val (a := .bool true) rfl rfl (by show (pureA a && true) = true; rw [hpa]; rfl) rfl fun o ho => ⟨h o ho, trivial⟩
theorem pure_o (i : Nat) : pureA (oX i) = true := rfl
theorem free_o (i : Nat) : (oX i).free = true := rfl
theorem kB_free (f : Nat) {a : AV plain} (b : Bool) (h : a.free = true) : (kB f a b).free = true := by
  show (true && (a.free && true) && true) = true
  rw [h]; rfl
theorem t_ok (n k : Nat) : ∀ c ∈ tAll n k, c.free = true ∧ Con P (Fence.there P) (HX n k) c := by
  intro c hc
  simp only [tAll, List.mem_append] at hc
  rcases hc with h | h | h | h
  · obtain ⟨i, hi, h⟩ := List.mem_flatMap.1 h
    have hi := List.mem_range.1 hi
    have fr : ∀ f, (kDoX f i).free = true := fun f => by
      show (true && ((AV.free cavA && (AV.free (sX i) && (AV.free (oX i) && true))) && (AV.free (sX (i + 1)) && (AV.free (gX i) && (true && true))))) = true
      rw [free_s]; rfl
    rcases List.mem_cons.1 h with rfl | h
    · exact ⟨fr 68, (xcon_do hi).1⟩
    · rcases List.mem_cons.1 h with rfl | h
      · exact ⟨fr 31, (xcon_do hi).2⟩
      · cases h
  · cases hb : Nat.blt k n with
    | false => rw [hb] at h; cases h
    | true =>
      rw [hb] at h
      have hk : k < n := by
        have := Nat.le_of_ble_eq_true hb
        omega
      have fr : ∀ f a, a.free = true → (kNoX f k a).free = true := fun f a ha => by
        show (true && ((AV.free cavA && (AV.free (sX k) && (AV.free (oX k) && true))) && (AV.free a && (AV.free z6A && (true && true))))) = true
        rw [free_s, ha]; rfl
      rcases List.mem_cons.1 h with rfl | h
      · exact ⟨fr 68 _ rfl, (xcon_no hk).1⟩
      · rcases List.mem_cons.1 h with rfl | h
        · exact ⟨fr 31 _ rfl, (xcon_no hk).2⟩
        · cases h
  · obtain ⟨i, hi, h⟩ := List.mem_flatMap.1 h
    have hi := List.mem_range.1 hi
    rcases List.mem_cons.1 h with rfl | h
    · exact ⟨kB_free _ _ (free_o i), xcon_b (pure_o i) fun o ho => by rw [val_o]; exact gives67 (GoodX.ho ho i hi)⟩
    · rcases List.mem_cons.1 h with rfl | h
      · exact ⟨kB_free _ _ (free_o i), xcon_b (pure_o i) fun o ho => by rw [val_o]; exact gives30 (GoodX.ho ho i hi)⟩
      · cases h
  · simp only [tHead, List.mem_cons, List.not_mem_nil, or_false] at h
    rcases h with rfl | rfl | rfl | rfl | rfl
    · exact ⟨by decide +kernel, k21_con _⟩
    · exact ⟨kB_free _ _ rfl, xcon_b (a := cavA) rfl fun o ho => by rw [val_c]; exact gives54 (GoodX.hc ho)⟩
    · exact ⟨kB_free _ _ rfl, xcon_b (a := stA) rfl fun o ho => by rw [val_st]; exact gives55 (GoodX.hs ho)⟩
    · exact ⟨kB_free _ _ rfl, xcon_b (a := cavA) rfl fun o ho => by rw [val_c]; exact gives19 (GoodX.hc ho)⟩
    · exact ⟨kB_free _ _ rfl, xcon_b (a := stA) rfl fun o ho => by rw [val_st]; exact gives20 (GoodX.hs ho)⟩
theorem con7 {n k : Nat} (hr : okX n k = true) : Con P (Fence.there P) (gX0 (HX n k)).holds (k7X n) :=
  con_of_run fbT rfl (t_ok n k) no_p (fun o h => h.extra) hr
end Go.Ev.Gas
end

