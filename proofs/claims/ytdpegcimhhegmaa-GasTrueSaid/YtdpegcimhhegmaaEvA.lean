import Derived.RangeFuncLeaves
import Derived.RangeFuncIn
import Derived.OrdersIn
import Derived.LoopNIn
import Derived.Below
import Derived.Deep.AppendSrc
import Derived.Deep.MidRow
set_option linter.unusedVariables false
set_option linter.unusedSimpArgs false
set_option linter.unusedSectionVars false
noncomputable section
namespace Go.Ev

/-- Symbols for integers: numbers, variables, and what is reckoned of them (0: sum, 1: difference, 2: product, 3: the lesser, 4: the greater, 5: quotient, 6: remainder). -/
inductive SX where
  | c (n : Int)
  | v (i : Nat)
  | bin (op : Nat) (a b : SX)
  deriving Inhabited

def valI : Value → Int
  | .int _ n => n
  | _ => 0

def sxOp (op : Nat) (x y : Int) : Int :=
  match op with
  | 0 => x + y
  | 1 => x - y
  | 2 => x * y
  | 3 => if y < x then y else x
  | 4 => if y > x then y else x
  | 5 => x.tdiv y
  | _ => x.tmod y

def SX.eval (o : Nat → Value) : SX → Int
  | .c n => n
  | .v i => valI (o i)
  | .bin op a b => sxOp op (a.eval o) (b.eval o)

/-- What is known of the variables: names of what is reckoned of them, with bounds; what is less, what is equal; anything more. -/
structure Ctx where
  names : List (SX × Nat × Int × Int)
  lts : List (SX × SX × Bool)
  eqs : List (SX × SX × Bool)
  extra : (Nat → Value) → Prop

structure Ctx.holds (G : Ctx) (o : Nat → Value) : Prop where
  names : ∀ x k lo hi, (x, k, lo, hi) ∈ G.names → x.eval o = valI (o k) ∧ lo ≤ valI (o k) ∧ valI (o k) ≤ hi
  lts : ∀ x y b, (x, y, b) ∈ G.lts → decide (x.eval o < y.eval o) = b
  eqs : ∀ x y b, (x, y, b) ∈ G.eqs → decide (x.eval o = y.eval o) = b
  extra : G.extra o

def plain : Ctx := ⟨[], [], [], fun _ => True⟩
theorem plain_holds (o : Nat → Value) : plain.holds o := ⟨(by intro _ _ _ _ h; cases h), (by intro _ _ _ h; cases h), (by intro _ _ _ h; cases h), trivial⟩

def eqI (x y : Int) : Bool := Int.rec (fun a => Int.rec (fun b => Nat.beq a b) (fun _ => false) y) (fun a => Int.rec (fun _ => false) (fun b => Nat.beq a b) y) x

theorem eqI_eq {x y : Int} (h : eqI x y = true) : x = y := by
  cases x with
  | ofNat a => cases y with
    | ofNat b => exact congrArg Int.ofNat (Nat.eq_of_beq_eq_true h)
    | negSucc b => cases h
  | negSucc a => cases y with
    | ofNat b => cases h
    | negSucc b => exact congrArg Int.negSucc (Nat.eq_of_beq_eq_true h)

def SX.same (x : SX) : SX → Bool :=
  SX.rec (motive := fun _ => SX → Bool)
    (fun n y => SX.rec (motive := fun _ => Bool) (fun m => eqI n m) (fun _ => false) (fun _ _ _ _ _ => false) y)
    (fun i y => SX.rec (motive := fun _ => Bool) (fun _ => false) (fun j => Nat.beq i j) (fun _ _ _ _ _ => false) y)
    (fun op _ _ fa fb y => SX.rec (motive := fun _ => Bool) (fun _ => false) (fun _ => false) (fun op' a' b' _ _ => Bool.rec false (Bool.rec false (fb b') (fa a')) (Nat.beq op op')) y) x

theorem SX.same_eq : ∀ {x y : SX}, x.same y = true → x = y
  | .c n, .c m, h => congrArg SX.c (eqI_eq h)
  | .c _, .v _, h => by cases h
  | .c _, .bin _ _ _, h => by cases h
  | .v _, .c _, h => by cases h
  | .v i, .v j, h => congrArg SX.v (Nat.eq_of_beq_eq_true h)
  | .v _, .bin _ _ _, h => by cases h
  | .bin _ _ _, .c _, h => by cases h
  | .bin _ _ _, .v _, h => by cases h
  | .bin op a b, .bin op' a' b', h => by
    change (Bool.rec false (Bool.rec false (b.same b') (a.same a')) (Nat.beq op op') : Bool) = true at h
    cases h1 : Nat.beq op op' with
    | false => rw [h1] at h; cases h
    | true =>
      rw [h1] at h
      cases h2 : a.same a' with
      | false => rw [h2] at h; cases h
      | true =>
        rw [h2] at h
        rw [Nat.eq_of_beq_eq_true h1, same_eq h2, same_eq (x := b) h]

def findN (x : SX) (l : List (SX × Nat × Int × Int)) : Option (Nat × Int × Int) :=
  List.rec none (fun p _ ih => Bool.rec ih (some p.2) (SX.same p.1 x)) l

theorem findN_mem {x : SX} : ∀ {l : List (SX × Nat × Int × Int)} {r : Nat × Int × Int}, findN x l = some r → (x, r) ∈ l
  | [], r, h => by cases h
  | p :: l, r, h => by
    change (Bool.rec (findN x l) (some p.2) (SX.same p.1 x) : Option _) = some r at h
    cases hs : SX.same p.1 x with
    | false => rw [hs] at h; exact List.mem_cons_of_mem _ (findN_mem h)
    | true =>
      rw [hs] at h
      cases h
      rw [← SX.same_eq hs]
      exact List.mem_cons_self ..

def findF (x y : SX) (l : List (SX × SX × Bool)) : Option Bool :=
  List.rec none (fun p _ ih => Bool.rec ih (Bool.rec ih (some p.2.2) (SX.same p.2.1 y)) (SX.same p.1 x)) l

theorem findF_mem {x y : SX} : ∀ {l : List (SX × SX × Bool)} {r : Bool}, findF x y l = some r → (x, y, r) ∈ l
  | [], r, h => by cases h
  | p :: l, r, h => by
    change (Bool.rec (findF x y l) (Bool.rec (findF x y l) (some p.2.2) (SX.same p.2.1 y)) (SX.same p.1 x) : Option _) = some r at h
    cases hs : SX.same p.1 x with
    | false => rw [hs] at h; exact List.mem_cons_of_mem _ (findF_mem h)
    | true =>
      rw [hs] at h
      cases ht : SX.same p.2.1 y with
      | false => rw [ht] at h; exact List.mem_cons_of_mem _ (findF_mem h)
      | true =>
        rw [ht] at h
        cases h
        rw [← SX.same_eq hs, ← SX.same_eq ht]
        exact List.mem_cons_self ..

def ltI (x y : Int) : Bool :=
  Int.rec (fun a => Int.rec (fun b => Nat.ble (Nat.succ a) b) (fun _ => false) y) (fun a => Int.rec (fun _ => true) (fun b => Nat.ble (Nat.succ b) a) y) x

theorem ble_dec (a b : Nat) : Nat.ble (Nat.succ a) b = decide (a < b) := by
  by_cases h : a < b
  · rw [decide_eq_true h]; exact Nat.ble_eq_true_of_le h
  · rw [decide_eq_false h]
    cases hb : Nat.ble (Nat.succ a) b with
    | false => rfl
    | true => exact absurd (Nat.le_of_ble_eq_true hb) h

theorem ltI_eq (x y : Int) : ltI x y = decide (x < y) := by
  cases x with
  | ofNat a => cases y with
    | ofNat b => show Nat.ble (Nat.succ a) b = _; rw [ble_dec]; congr 1; simp
    | negSucc b => show false = _; symm; apply decide_eq_false; simp only [Int.ofNat_eq_natCast]; omega
  | negSucc a => cases y with
    | ofNat b => show true = _; symm; apply decide_eq_true; simp only [Int.ofNat_eq_natCast]; omega
    | negSucc b =>
      show Nat.ble (Nat.succ b) a = _
      rw [ble_dec]
      have : (b < a) ↔ (Int.negSucc a < Int.negSucc b) := by omega
      exact decide_eq_decide.2 this

def leI (x y : Int) : Bool := Bool.rec true false (ltI y x)
theorem leI_eq (x y : Int) : leI x y = decide (x ≤ y) := by
  unfold leI; rw [ltI_eq]
  by_cases h : y < x
  · rw [decide_eq_true h]; symm; apply decide_eq_false; omega
  · rw [decide_eq_false h]; symm; apply decide_eq_true; omega

/-- A symbol with its bounds. -/
structure SV where
  x : SX
  lo : Int
  hi : Int

def SV.ok (o : Nat → Value) (a : SV) : Prop := a.lo ≤ a.x.eval o ∧ a.x.eval o ≤ a.hi

/-- Bounds of what is reckoned, as far as they are known. -/
def rngOp (op : Nat) (a b : SV) : Option (Int × Int) :=
  match op with
  | 0 => some (a.lo + b.lo, a.hi + b.hi)
  | 1 => some (a.lo - b.hi, a.hi - b.lo)
  | 2 =>
    match leI 0 a.lo, leI 0 b.lo with
    | true, true => some (a.lo * b.lo, a.hi * b.hi)
    | true, false => match leI b.hi 0 with
      | true => some (a.hi * b.lo, a.lo * b.hi)
      | false => some (a.hi * b.lo, a.hi * b.hi)
    | false, true => match leI a.hi 0 with
      | true => some (a.lo * b.hi, a.hi * b.lo)
      | false => some (a.lo * b.hi, a.hi * b.hi)
    | false, false => none
  | 3 => some (sxOp 3 a.lo b.lo, sxOp 3 a.hi b.hi)
  | 4 => some (sxOp 4 a.lo b.lo, sxOp 4 a.hi b.hi)
  | 5 => match leI 1 b.lo with
    | true => some (sxOp 3 a.lo 0, sxOp 4 a.hi 0)
    | false => none
  | _ => match leI 0 a.lo, leI 1 b.lo with
    | true, true => some (0, sxOp 3 a.hi (b.hi - 1))
    | _, _ => none

theorem leI_true {x y : Int} (h : leI x y = true) : x ≤ y := by rw [leI_eq] at h; exact of_decide_eq_true h
theorem leI_false {x y : Int} (h : leI x y = false) : y < x := by rw [leI_eq] at h; have := of_decide_eq_false h; omega

theorem rngOp_sound {op : Nat} {a b : SV} {o : Nat → Value} {lo hi : Int} (h : rngOp op a b = some (lo, hi)) (ha : a.ok o) (hb : b.ok o) :
    lo ≤ sxOp op (a.x.eval o) (b.x.eval o) ∧ sxOp op (a.x.eval o) (b.x.eval o) ≤ hi := by
  obtain ⟨a1, a2⟩ := ha
  obtain ⟨b1, b2⟩ := hb
  obtain ⟨ax, p, q⟩ := a
  obtain ⟨bx, r, s⟩ := b
  simp only at a1 a2 b1 b2 ⊢
  generalize ax.eval o = A at *
  generalize bx.eval o = B at *
  unfold rngOp at h
  simp only at h
  split at h
  · cases h; simp only [sxOp]; omega
  · cases h; simp only [sxOp]; omega
  · show lo ≤ A * B ∧ A * B ≤ hi
    split at h
    · rename_i h1 h2; cases h
      have h1 := leI_true h1; have h2 := leI_true h2
      exact ⟨Int.mul_le_mul a1 b1 h2 (by omega), Int.mul_le_mul a2 b2 (by omega) (by omega)⟩
    · rename_i h1 h2
      have h1 := leI_true h1; have h2 := leI_false h2
      have k1 : q * r ≤ A * B := by
        have e1 : q * r ≤ A * r := Int.mul_le_mul_of_nonpos_right a2 (by omega)
        have e2 : A * r ≤ A * B := Int.mul_le_mul_of_nonneg_left b1 (by omega)
        omega
      split at h
      · rename_i h3; cases h
        have h3 := leI_true h3
        refine ⟨k1, ?_⟩
        have e1 : A * B ≤ A * s := Int.mul_le_mul_of_nonneg_left b2 (by omega)
        have e2 : A * s ≤ p * s := Int.mul_le_mul_of_nonpos_right a1 h3
        omega
      · rename_i h3; cases h
        have h3 := leI_false h3
        refine ⟨k1, ?_⟩
        have e1 : A * B ≤ A * s := Int.mul_le_mul_of_nonneg_left b2 (by omega)
        have e2 : A * s ≤ q * s := Int.mul_le_mul_of_nonneg_right a2 (by omega)
        omega
    · rename_i h1 h2
      have h1 := leI_false h1; have h2 := leI_true h2
      have k1 : p * s ≤ A * B := by
        have e1 : p * s ≤ p * B := Int.mul_le_mul_of_nonpos_left (by omega) b2
        have e2 : p * B ≤ A * B := Int.mul_le_mul_of_nonneg_right a1 (by omega)
        omega
      split at h
      · rename_i h3; cases h
        have h3 := leI_true h3
        refine ⟨k1, ?_⟩
        have e1 : A * B ≤ q * B := Int.mul_le_mul_of_nonneg_right a2 (by omega)
        have e2 : q * B ≤ q * r := Int.mul_le_mul_of_nonpos_left h3 b1
        omega
      · rename_i h3; cases h
        have h3 := leI_false h3
        refine ⟨k1, ?_⟩
        have e1 : A * B ≤ q * B := Int.mul_le_mul_of_nonneg_right a2 (by omega)
        have e2 : q * B ≤ q * s := Int.mul_le_mul_of_nonneg_left b2 (by omega)
        omega
    · cases h
  · cases h; simp only [sxOp]; constructor <;> (repeat' split) <;> omega
  · cases h; simp only [sxOp]; constructor <;> (repeat' split) <;> omega
  · split at h
    · rename_i h2; cases h
      have h2 := leI_true h2
      show _ ≤ A.tdiv B ∧ A.tdiv B ≤ _
      have key : (0 ≤ A → 0 ≤ A.tdiv B ∧ A.tdiv B ≤ A) ∧ (A < 0 → A ≤ A.tdiv B ∧ A.tdiv B ≤ 0) := by
        refine ⟨fun hA => ?_, fun hA => ?_⟩
        · rw [Int.tdiv_eq_ediv_of_nonneg hA]
          exact ⟨Int.ediv_nonneg hA (by omega), Int.ediv_le_self _ hA⟩
        · have e : A.tdiv B = -((-A).tdiv B) := by rw [Int.neg_tdiv]; omega
          rw [e, Int.tdiv_eq_ediv_of_nonneg (by omega)]
          have e1 := Int.ediv_nonneg (a := -A) (b := B) (by omega) (by omega)
          have e2 := Int.ediv_le_self B (a := -A) (by omega)
          omega
      simp only [sxOp]
      by_cases hA : 0 ≤ A
      · have := key.1 hA; constructor <;> split <;> omega
      · have := key.2 (by omega); constructor <;> split <;> omega
    · cases h
  · rename_i h0 h0' h0'' h0''' h0'''' h0'''''
    have hop : sxOp op A B = A.tmod B := by
      unfold sxOp; split <;> first | rfl | (exfalso; contradiction)
    rw [hop]
    split at h
    · rename_i h1 h2; cases h
      have h1 := leI_true h1; have h2 := leI_true h2
      rw [Int.tmod_eq_emod_of_nonneg (by omega)]
      have e1 := Int.emod_nonneg A (show B ≠ 0 by omega)
      have e2 := Int.emod_lt_of_pos A (show 0 < B by omega)
      have e3 : A % B ≤ A := by
        have k1 := Int.ediv_nonneg (show 0 ≤ A by omega) (show 0 ≤ B by omega)
        have k2 := Int.mul_ediv_add_emod A B
        have k3 : 0 ≤ B * (A / B) := Int.mul_nonneg (by omega) k1
        omega
      simp only [sxOp]
      exact ⟨e1, by split <;> omega⟩
    · cases h

/-- What is reckoned of two symbols: by its name, if it has one; within int's bounds. -/
def fit64 (a : SV) : Bool := Bool.rec false (leI a.hi 9223372036854775807) (leI (-9223372036854775808) a.lo)

/-- Bounds out of what is known. -/
def refOne (x : SX) (f : SX × SX × Bool) (r : Int × Int) : Int × Int :=
  match f.1 with
  | .c m => match SX.same f.2.1 x with
    | true => match f.2.2 with
      | true => (sxOp 4 r.1 (m + 1), r.2)
      | false => (r.1, sxOp 3 r.2 m)
    | false => r
  | p => match f.2.1 with
    | .c m => match SX.same p x with
      | true => match f.2.2 with
        | true => (r.1, sxOp 3 r.2 (m - 1))
        | false => (sxOp 4 r.1 m, r.2)
      | false => r
    | _ => r

def refB (x : SX) (l : List (SX × SX × Bool)) (r : Int × Int) : Int × Int := List.rec (motive := fun _ => Int × Int) r (fun f _ ih => refOne x f ih) l

theorem minmax (A B : Int) : (sxOp 3 A B = A ∨ sxOp 3 A B = B) ∧ sxOp 3 A B ≤ A ∧ sxOp 3 A B ≤ B ∧ (sxOp 4 A B = A ∨ sxOp 4 A B = B) ∧ A ≤ sxOp 4 A B ∧ B ≤ sxOp 4 A B := by
  simp only [sxOp]
  by_cases h1 : B < A <;> by_cases h2 : B > A <;> simp [h1, h2] <;> omega

theorem refOne_sound {G : Ctx} {o : Nat → Value} (hG : G.holds o) {x : SX} {f : SX × SX × Bool} (hf : f ∈ G.lts) {r : Int × Int} (h1 : r.1 ≤ x.eval o) (h2 : x.eval o ≤ r.2) : (refOne x f r).1 ≤ x.eval o ∧ x.eval o ≤ (refOne x f r).2 := by
  obtain ⟨p, q, b⟩ := f
  have hl := hG.lts _ _ _ hf
  unfold refOne
  simp only
  split
  · rename_i m
    split
    · rename_i hs
      have hs := SX.same_eq hs
      subst hs
      cases b with
      | true =>
        have := of_decide_eq_true hl
        simp only [SX.eval] at this
        have mm := minmax r.1 (m + 1)
        simp only
        omega
      | false =>
        have := of_decide_eq_false hl
        simp only [SX.eval] at this
        have mm := minmax r.2 m
        simp only
        omega
    · exact ⟨h1, h2⟩
  · split
    · rename_i m
      split
      · rename_i hs
        have hs := SX.same_eq hs
        subst hs
        cases b with
        | true =>
          have := of_decide_eq_true hl
          simp only [SX.eval] at this
          have mm := minmax r.2 (m - 1)
          simp only
          omega
        | false =>
          have := of_decide_eq_false hl
          simp only [SX.eval] at this
          have mm := minmax r.1 m
          simp only
          omega
      · exact ⟨h1, h2⟩
    · exact ⟨h1, h2⟩

theorem refB_sound {G : Ctx} {o : Nat → Value} (hG : G.holds o) {x : SX} {r : Int × Int} (h1 : r.1 ≤ x.eval o) (h2 : x.eval o ≤ r.2) : ∀ (l : List (SX × SX × Bool)), (∀ f ∈ l, f ∈ G.lts) → (refB x l r).1 ≤ x.eval o ∧ x.eval o ≤ (refB x l r).2
  | [], _ => ⟨h1, h2⟩
  | f :: l, hl => by
    have ih := refB_sound hG h1 h2 l (fun g hg => hl g (List.mem_cons_of_mem _ hg))
    exact refOne_sound hG (hl f (List.mem_cons_self ..)) ih.1 ih.2

/-- By the bounds that are known besides. -/
def ltR (a b : Int × Int) : Option Bool :=
  match ltI a.2 b.1 with
  | true => some true
  | false => match leI b.2 a.1 with
    | true => some false
    | false => none

/-- Is one less than the other? -/
def ltS (G : Ctx) (a b : SV) : Option Bool :=
  match ltI a.hi b.lo with
  | true => some true
  | false => match leI b.hi a.lo with
    | true => some false
    | false => match findF a.x b.x G.lts with
      | some r => some r
      | none => match SX.same a.x b.x with
        | true => some false
        | false => ltR (refB a.x G.lts (a.lo, a.hi)) (refB b.x G.lts (b.lo, b.hi))

theorem ltS_sound {G : Ctx} {o : Nat → Value} (hG : G.holds o) {a b : SV} {r : Bool} (h : ltS G a b = some r) (ha : a.ok o) (hb : b.ok o) : decide (a.x.eval o < b.x.eval o) = r := by
  have := ha.1; have := ha.2; have := hb.1; have := hb.2
  unfold ltS at h
  split at h
  · rename_i h1; cases h; rw [ltI_eq] at h1; have := of_decide_eq_true h1; exact decide_eq_true (by omega)
  · split at h
    · rename_i h1; cases h; have := leI_true h1; exact decide_eq_false (by omega)
    · split at h
      · rename_i r' hf; cases h; exact hG.lts _ _ _ (findF_mem hf)
      · split at h
        · rename_i h1; cases h; rw [SX.same_eq h1]; exact decide_eq_false (by omega)
        · have ra := refB_sound hG (r := (a.lo, a.hi)) ha.1 ha.2 G.lts (fun _ h => h)
          have rb := refB_sound hG (r := (b.lo, b.hi)) hb.1 hb.2 G.lts (fun _ h => h)
          unfold ltR at h
          split at h
          · rename_i h1; cases h; rw [ltI_eq] at h1; have := of_decide_eq_true h1; exact decide_eq_true (by omega)
          · split at h
            · rename_i h1; cases h; have := leI_true h1; exact decide_eq_false (by omega)
            · cases h

/-- Is a symbol surely greater than 0? -/
def posS (G : Ctx) (b : SV) : Bool :=
  match leI 1 b.lo with
  | true => true
  | false => match findF (.c 0) b.x G.lts with
    | some true => true
    | _ => false

theorem posS_sound {G : Ctx} {o : Nat → Value} (hG : G.holds o) {b : SV} (h : posS G b = true) (hb : b.ok o) : 1 ≤ b.x.eval o := by
  unfold posS at h
  split at h
  · rename_i h1; have := leI_true h1; have := hb.1; omega
  · split at h
    · rename_i hf
      have := hG.lts _ _ _ (findF_mem hf)
      have := of_decide_eq_true this
      simp only [SX.eval] at this
      omega
    · cases h

/-- Is x surely at least y? -/
def geX (G : Ctx) (x y : SX) : Bool :=
  match SX.same x y with
  | true => true
  | false => match findF x y G.lts with
    | some false => true
    | some true => false
    | none => match findF y x G.lts with
      | some true => true
      | _ => false

theorem geX_sound {G : Ctx} {o : Nat → Value} (hG : G.holds o) {x y : SX} (h : geX G x y = true) : y.eval o ≤ x.eval o := by
  unfold geX at h
  split at h
  · rename_i hs; rw [SX.same_eq hs]; exact Int.le_refl _
  · split at h
    · rename_i hf; have := of_decide_eq_false (hG.lts _ _ _ (findF_mem hf)); omega
    · cases h
    · split at h
      · rename_i hf; have := of_decide_eq_true (hG.lts _ _ _ (findF_mem hf)); omega
      · cases h

/-- Of what is the lesser, or the greater: holds it of all, of one? -/
def allX (op : Nat) (q : SX → Bool) (x : SX) : Bool :=
  SX.rec (motive := fun _ => Bool) (fun n => q (.c n)) (fun i => q (.v i)) (fun p a b ia ib => Bool.rec (q (.bin p a b)) (Bool.rec false ib ia) (Nat.beq p op)) x
def anyX (op : Nat) (q : SX → Bool) (x : SX) : Bool :=
  SX.rec (motive := fun _ => Bool) (fun n => q (.c n)) (fun i => q (.v i)) (fun p a b ia ib => Bool.rec (q (.bin p a b)) (Bool.rec ib true ia) (Nat.beq p op)) x

theorem any3 {o : Nat → Value} {q : SX → Bool} {c : Int} (hq : ∀ x, q x = true → x.eval o ≤ c) : ∀ (x : SX), anyX 3 q x = true → x.eval o ≤ c
  | .c n, h => hq _ h
  | .v i, h => hq _ h
  | .bin p a b, h => by
    change (Bool.rec (q (.bin p a b)) (Bool.rec (anyX 3 q b) true (anyX 3 q a)) (Nat.beq p 3) : Bool) = true at h
    cases hp : Nat.beq p 3 with
    | false => rw [hp] at h; exact hq _ h
    | true =>
      rw [hp] at h
      have := Nat.eq_of_beq_eq_true hp; subst this
      have m := minmax (a.eval o) (b.eval o)
      simp only [SX.eval]
      cases ha : anyX 3 q a with
      | true => have := any3 hq a ha; omega
      | false => rw [ha] at h; have := any3 hq b h; omega
theorem any4 {o : Nat → Value} {q : SX → Bool} {c : Int} (hq : ∀ x, q x = true → c ≤ x.eval o) : ∀ (x : SX), anyX 4 q x = true → c ≤ x.eval o
  | .c n, h => hq _ h
  | .v i, h => hq _ h
  | .bin p a b, h => by
    change (Bool.rec (q (.bin p a b)) (Bool.rec (anyX 4 q b) true (anyX 4 q a)) (Nat.beq p 4) : Bool) = true at h
    cases hp : Nat.beq p 4 with
    | false => rw [hp] at h; exact hq _ h
    | true =>
      rw [hp] at h
      have := Nat.eq_of_beq_eq_true hp; subst this
      have m := minmax (a.eval o) (b.eval o)
      simp only [SX.eval]
      cases ha : anyX 4 q a with
      | true => have := any4 hq a ha; omega
      | false => rw [ha] at h; have := any4 hq b h; omega
theorem all3 {o : Nat → Value} {q : SX → Bool} {c : Int} (hq : ∀ x, q x = true → c ≤ x.eval o) : ∀ (x : SX), allX 3 q x = true → c ≤ x.eval o
  | .c n, h => hq _ h
  | .v i, h => hq _ h
  | .bin p a b, h => by
    change (Bool.rec (q (.bin p a b)) (Bool.rec false (allX 3 q b) (allX 3 q a)) (Nat.beq p 3) : Bool) = true at h
    cases hp : Nat.beq p 3 with
    | false => rw [hp] at h; exact hq _ h
    | true =>
      rw [hp] at h
      have := Nat.eq_of_beq_eq_true hp; subst this
      have m := minmax (a.eval o) (b.eval o)
      simp only [SX.eval]
      cases ha : allX 3 q a with
      | false => rw [ha] at h; cases h
      | true => rw [ha] at h; have := all3 hq a ha; have := all3 hq b h; omega
theorem all4 {o : Nat → Value} {q : SX → Bool} {c : Int} (hq : ∀ x, q x = true → x.eval o ≤ c) : ∀ (x : SX), allX 4 q x = true → x.eval o ≤ c
  | .c n, h => hq _ h
  | .v i, h => hq _ h
  | .bin p a b, h => by
    change (Bool.rec (q (.bin p a b)) (Bool.rec false (allX 4 q b) (allX 4 q a)) (Nat.beq p 4) : Bool) = true at h
    cases hp : Nat.beq p 4 with
    | false => rw [hp] at h; exact hq _ h
    | true =>
      rw [hp] at h
      have := Nat.eq_of_beq_eq_true hp; subst this
      have m := minmax (a.eval o) (b.eval o)
      simp only [SX.eval]
      cases ha : allX 4 q a with
      | false => rw [ha] at h; cases h
      | true => rw [ha] at h; have := all4 hq a ha; have := all4 hq b h; omega

/-- Is it surely 0? -/
def isZ (a : SV) : Bool := Bool.rec false (eqI a.hi 0) (eqI a.lo 0)
theorem isZ_sound {a : SV} {o : Nat → Value} (h : isZ a = true) (ha : a.ok o) : a.x.eval o = 0 := by
  unfold isZ at h
  cases h1 : eqI a.lo 0 with
  | false => rw [h1] at h; cases h
  | true =>
    rw [h1] at h
    have h1 := eqI_eq h1
    have h2 := eqI_eq (x := a.hi) h
    have := ha.1; have := ha.2
    omega

def svZ : SV := ⟨.c 0, 0, 0⟩

/-- What is known at once: the lesser, the greater; what has 0 in it. -/
def pickS (G : Ctx) (op : Nat) (a b : SV) : Option SV :=
  match op with
  | 0 => match isZ b with
    | true => some a
    | false => match isZ a with
      | true => some b
      | false => none
  | 1 => match isZ b with
    | true => some a
    | false => none
  | 2 => match isZ a with
    | true => some svZ
    | false => match isZ b with
      | true => some svZ
      | false => none
  | 3 => match ltS G b a with
    | some true => some b
    | some false => some a
    | none => match anyX 3 (fun e => geX G b.x e) a.x with
      | true => some a
      | false => match allX 3 (fun e => geX G e b.x) a.x with
        | true => some b
        | false => none
  | 4 => match ltS G a b with
    | some true => some b
    | some false => some a
    | none => match anyX 4 (fun e => geX G e b.x) a.x with
      | true => some a
      | false => match allX 4 (fun e => geX G b.x e) a.x with
        | true => some b
        | false => none
  | 5 => match isZ a with
    | true => some svZ
    | false => none
  | _ => none

theorem svZ_ok (o : Nat → Value) : svZ.ok o := ⟨Int.le_refl _, Int.le_refl _⟩

theorem pickS_sound {G : Ctx} {o : Nat → Value} (hG : G.holds o) {op : Nat} {a b r : SV} (h : pickS G op a b = some r) (ha : a.ok o) (hb : b.ok o) : r.x.eval o = sxOp op (a.x.eval o) (b.x.eval o) ∧ r.ok o := by
  unfold pickS at h
  split at h
  · split at h
    · rename_i hz; cases h; exact ⟨by simp [sxOp, isZ_sound hz hb], ha⟩
    · split at h
      · rename_i hz; cases h; exact ⟨by simp [sxOp, isZ_sound hz ha], hb⟩
      · cases h
  · split at h
    · rename_i hz; cases h; exact ⟨by simp [sxOp, isZ_sound hz hb], ha⟩
    · cases h
  · split at h
    · rename_i hz; cases h; exact ⟨by simp [sxOp, isZ_sound hz ha, svZ, SX.eval], svZ_ok o⟩
    · split at h
      · rename_i hz; cases h; exact ⟨by simp [sxOp, isZ_sound hz hb, svZ, SX.eval], svZ_ok o⟩
      · cases h
  · have m := minmax (a.x.eval o) (b.x.eval o)
    split at h
    · rename_i hl; cases h
      have := of_decide_eq_true (ltS_sound hG hl hb ha)
      exact ⟨by simp [sxOp, this], hb⟩
    · rename_i hl; cases h
      have := of_decide_eq_false (ltS_sound hG hl hb ha)
      exact ⟨by simp [sxOp, this], ha⟩
    · split at h
      · rename_i hn; cases h
        have := any3 (c := b.x.eval o) (fun e he => geX_sound hG he) a.x hn
        exact ⟨by omega, ha⟩
      · split at h
        · rename_i hn; cases h
          have := all3 (c := b.x.eval o) (fun e he => geX_sound hG he) a.x hn
          exact ⟨by omega, hb⟩
        · cases h
  · have m := minmax (a.x.eval o) (b.x.eval o)
    split at h
    · rename_i hl; cases h
      have := of_decide_eq_true (ltS_sound hG hl ha hb)
      exact ⟨by simp [sxOp, this], hb⟩
    · rename_i hl; cases h
      have := of_decide_eq_false (ltS_sound hG hl ha hb)
      exact ⟨by simp [sxOp, this], ha⟩
    · split at h
      · rename_i hn; cases h
        have := any4 (c := b.x.eval o) (fun e he => geX_sound hG he) a.x hn
        exact ⟨by omega, ha⟩
      · split at h
        · rename_i hn; cases h
          have := all4 (c := b.x.eval o) (fun e he => geX_sound hG he) a.x hn
          exact ⟨by omega, hb⟩
        · cases h
  · split at h
    · rename_i hz; cases h; exact ⟨by simp [sxOp, isZ_sound hz ha, svZ, SX.eval], svZ_ok o⟩
    · cases h
  · cases h

def mkS (G : Ctx) (op : Nat) (a b : SV) : Option SV :=
  match findN (.bin op a.x b.x) G.names with
  | some (k, lo, hi) => some ⟨.v k, lo, hi⟩
  | none => match pickS G op a b with
    | some r => some r
    | none => match rngOp op a b with
      | some (lo, hi) => some ⟨.bin op a.x b.x, lo, hi⟩
      | none => none

def mkS64 (G : Ctx) (op : Nat) (a b : SV) : Option SV :=
  match mkS G op a b with
  | some r => match fit64 r with
    | true => some r
    | false => none
  | none => none

theorem mkS_sound {G : Ctx} {o : Nat → Value} (hG : G.holds o) {op : Nat} {a b r : SV} (h : mkS G op a b = some r) (ha : a.ok o) (hb : b.ok o) : r.x.eval o = sxOp op (a.x.eval o) (b.x.eval o) ∧ r.ok o := by
  unfold mkS at h
  split at h
  · rename_i k lo hi hf
    cases h
    obtain ⟨h1, h2, h3⟩ := hG.names _ _ _ _ (findN_mem hf)
    exact ⟨h1.symm, h2, h3⟩
  · split at h
    · rename_i r' hp
      cases h
      exact pickS_sound hG hp ha hb
    · split at h
      · rename_i lo hi hr
        cases h
        exact ⟨rfl, rngOp_sound hr ha hb⟩
      · cases h

theorem mkS64_sound {G : Ctx} {o : Nat → Value} (hG : G.holds o) {op : Nat} {a b r : SV} (h : mkS64 G op a b = some r) (ha : a.ok o) (hb : b.ok o) :
    r.x.eval o = sxOp op (a.x.eval o) (b.x.eval o) ∧ r.ok o ∧ -9223372036854775808 ≤ sxOp op (a.x.eval o) (b.x.eval o) ∧ sxOp op (a.x.eval o) (b.x.eval o) ≤ 9223372036854775807 := by
  unfold mkS64 at h
  split at h
  · rename_i r' hr
    split at h
    · rename_i hf
      cases h
      obtain ⟨h1, h2⟩ := mkS_sound hG hr ha hb
      unfold fit64 at hf
      cases h3 : leI (-9223372036854775808) r.lo with
      | false => rw [h3] at hf; cases hf
      | true =>
        rw [h3] at hf
        have h3 := leI_true h3
        have h4 := leI_true (x := r.hi) hf
        have := h2.1; have := h2.2
        exact ⟨h1, h2, by omega, by omega⟩
    · cases h
  · cases h

def eqS (G : Ctx) (a b : SV) : Option Bool :=
  match SX.same a.x b.x with
  | true => some true
  | false => match ltI a.hi b.lo with
    | true => some false
    | false => match ltI b.hi a.lo with
      | true => some false
      | false => match ltI a.lo a.hi with
        | false => match ltI b.lo b.hi with
          | false => some true
          | true => findF a.x b.x G.eqs
        | true => findF a.x b.x G.eqs

theorem eqS_sound {G : Ctx} {o : Nat → Value} (hG : G.holds o) {a b : SV} {r : Bool} (h : eqS G a b = some r) (ha : a.ok o) (hb : b.ok o) : decide (a.x.eval o = b.x.eval o) = r := by
  have := ha.1; have := ha.2; have := hb.1; have := hb.2
  unfold eqS at h
  cases h0 : SX.same a.x b.x with
  | true => rw [h0] at h; cases h; rw [SX.same_eq h0]; simp
  | false =>
    rw [h0] at h
    cases h1 : ltI a.hi b.lo with
    | true => rw [h1] at h; cases h; rw [ltI_eq] at h1; have := of_decide_eq_true h1; exact decide_eq_false (by omega)
    | false =>
      rw [h1] at h
      cases h2 : ltI b.hi a.lo with
      | true => rw [h2] at h; cases h; rw [ltI_eq] at h2; have := of_decide_eq_true h2; exact decide_eq_false (by omega)
      | false =>
        rw [h2] at h
        cases h3 : ltI a.lo a.hi with
        | true => rw [h3] at h; exact hG.eqs _ _ _ (findF_mem h)
        | false =>
          rw [h3] at h
          cases h4 : ltI b.lo b.hi with
          | true => rw [h4] at h; exact hG.eqs _ _ _ (findF_mem h)
          | false =>
            rw [h4] at h
            cases h
            rw [ltI_eq] at h1 h2 h3 h4
            have := of_decide_eq_false h1; have := of_decide_eq_false h2; have := of_decide_eq_false h3; have := of_decide_eq_false h4
            exact decide_eq_true (by omega)
end Go.Ev
end

noncomputable section
namespace Go.Ev
variable {G : Ctx}

/-- Values of the abstract machine: addresses are numbers of abstract blocks. -/
inductive AV (G : Ctx) where
  | bool (b : Bool)
  | int (k : IntKind) (n : Int)
  | str (s : ByteArray)
  | ptr (id off : Nat)
  | nilp
  | slice (id off len cap : Nat) (grown : Bool)      -- grown: 'cap' is the size of an element, and the capacity is whatever the tape said
  | nils
  | map (id : Nat)
  | nilm
  | func (fn : Fn) (first captured : List (AV G))
  | yield (id : Nat)
  | nilf
  | iface (t : TypeId) (v : (AV G))
  | nili
  | agg (cs : List (AV G))
  | tuple (vs : List (AV G))
  | opq (k : Nat)
  | sx (x : SX) (lo hi : Int)      -- an int whose value is a symbol, with bounds
  deriving Inhabited

/-- What the abstract names stand for in a world. -/
structure Env (G : Ctx) where
  φ : Nat → Option (Nat × Nat)
  opq : Nat → Value
  base : Nat
  /-- As many cells are there. -/
  room : Nat → Nat
  /-- The functions in whose frames loops lie. -/
  fnok : Nat → Prop
  one : ∀ k, (opq k).oneCell' = true
  holds : G.holds opq

mutual
def VR (e : (Env G)) : (AV G) → Value → Prop
  | .bool b, v => v = .bool b
  | .int k n, v => v = .int k n
  | .str s, v => v = .string s
  | .ptr id off, v => ∃ b o, e.φ id = some (b, o) ∧ v = .pointer (some ⟨b, o + off, none⟩)
  | .nilp, v => v = .pointer none
  | .slice id off len cap gr, v => ∃ b o c, e.φ id = some (b, o) ∧ v = .slice (some ⟨b, o + off, none⟩) len c ∧ len ≤ c ∧ (gr = false → c = cap) ∧ (gr = true → off = 0 → c * cap ≤ e.room id)
  | .nils, v => v = .slice none 0 0
  | .map id, v => ∃ b o, e.φ id = some (b, o) ∧ v = .map (some b)
  | .nilm, v => v = .map none
  | .func fn f c, v => ∃ f' c', v = .func fn f' c' ∧ VRs e f f'.toList ∧ VRs e c c'.toList
  | .yield id, v => ∃ b o, e.φ id = some (b, o) ∧ v = .func (.yield b) #[] #[]
  | .nilf, v => v = .nilFunc
  | .iface t a, v => ∃ x, v = .iface t x ∧ VR e a x
  | .nili, v => v = .nilIface
  | .agg cs, v => ∃ xs, v = .agg xs ∧ VRs e cs xs.toList
  | .tuple cs, v => ∃ xs, v = .tuple xs ∧ VRs e cs xs.toList
  | .opq k, v => v = e.opq k
  | .sx x lo hi, v => v = .int .i64 (x.eval e.opq) ∧ lo ≤ x.eval e.opq ∧ x.eval e.opq ≤ hi
def VRs (e : (Env G)) : List (AV G) → List Value → Prop
  | [], vs => vs = []
  | a :: as, vs => ∃ v vs', vs = v :: vs' ∧ VR e a v ∧ VRs e as vs'
end

/-- A later environment. -/
structure Env.le (e e' : (Env G)) : Prop where
  φ : ∀ id x, e.φ id = some x → e'.φ id = some x
  opq : e'.opq = e.opq
  base : e'.base = e.base
  room : ∀ id x, e.φ id = some x → e'.room id = e.room id
  fnok : e'.fnok = e.fnok

theorem Env.le.refl (e : (Env G)) : e.le e := ⟨fun _ _ h => h, rfl, rfl, fun _ _ _ => rfl, rfl⟩
theorem Env.le.trans {a b c : (Env G)} (h : a.le b) (k : b.le c) : a.le c :=
  ⟨fun id x hx => k.φ id x (h.φ id x hx), k.opq.trans h.opq, k.base.trans h.base, fun id x hx => (k.room id x (h.φ id x hx)).trans (h.room id x hx), k.fnok.trans h.fnok⟩

mutual
theorem VR.mono {e e' : (Env G)} (h : e.le e') : ∀ (a : (AV G)) (v : Value), VR e a v → VR e' a v
  | .bool _, _, hv => by simpa [VR] using hv
  | .int _ _, _, hv => by simpa [VR] using hv
  | .str _, _, hv => by simpa [VR] using hv
  | .ptr _ _, _, hv => by
    simp only [VR] at hv ⊢
    obtain ⟨b, o, h1, h2⟩ := hv
    exact ⟨b, o, h.φ _ _ h1, h2⟩
  | .nilp, _, hv => by simpa [VR] using hv
  | .slice _ _ _ _ _, _, hv => by
    simp only [VR] at hv ⊢
    obtain ⟨b, o, c, h1, h2, h3, h4, h5⟩ := hv
    exact ⟨b, o, c, h.φ _ _ h1, h2, h3, h4, fun hg ho => by rw [h.room _ _ h1]; exact h5 hg ho⟩
  | .nils, _, hv => by simpa [VR] using hv
  | .map _, _, hv => by
    simp only [VR] at hv ⊢
    obtain ⟨b, o, h1, h2⟩ := hv
    exact ⟨b, o, h.φ _ _ h1, h2⟩
  | .nilm, _, hv => by simpa [VR] using hv
  | .func _ f c, _, hv => by
    simp only [VR] at hv ⊢
    obtain ⟨f', c', h1, h2, h3⟩ := hv
    exact ⟨f', c', h1, VRs.mono h f _ h2, VRs.mono h c _ h3⟩
  | .yield _, _, hv => by
    simp only [VR] at hv ⊢
    obtain ⟨b, o, h1, h2⟩ := hv
    exact ⟨b, o, h.φ _ _ h1, h2⟩
  | .nilf, _, hv => by simpa [VR] using hv
  | .iface _ a, _, hv => by
    simp only [VR] at hv ⊢
    obtain ⟨x, h1, h2⟩ := hv
    exact ⟨x, h1, VR.mono h a x h2⟩
  | .nili, _, hv => by simpa [VR] using hv
  | .agg cs, _, hv => by
    simp only [VR] at hv ⊢
    obtain ⟨xs, h1, h2⟩ := hv
    exact ⟨xs, h1, VRs.mono h cs _ h2⟩
  | .tuple cs, _, hv => by
    simp only [VR] at hv ⊢
    obtain ⟨xs, h1, h2⟩ := hv
    exact ⟨xs, h1, VRs.mono h cs _ h2⟩
  | .opq k, _, hv => by
    simp only [VR] at hv ⊢
    rw [h.opq]; exact hv
  | .sx x lo hi, _, hv => by
    simp only [VR] at hv ⊢
    rw [h.opq]; exact hv
theorem VRs.mono {e e' : (Env G)} (h : e.le e') : ∀ (a : List (AV G)) (v : List Value), VRs e a v → VRs e' a v
  | [], _, hv => by simpa [VRs] using hv
  | a :: as, _, hv => by
    simp only [VRs] at hv ⊢
    obtain ⟨v, vs', h1, h2, h3⟩ := hv
    exact ⟨v, vs', h1, VR.mono h a v h2, VRs.mono h as vs' h3⟩
end

theorem VRs.length {e : (Env G)} : ∀ {as : List (AV G)} {vs : List Value}, VRs e as vs → vs.length = as.length
  | [], _, h => by simp only [VRs] at h; subst h; rfl
  | a :: as, _, h => by
    simp only [VRs] at h
    obtain ⟨v, vs', rfl, _, h3⟩ := h
    simp [VRs.length h3]

theorem VRs.get {e : (Env G)} : ∀ {as : List (AV G)} {vs : List Value} {i : Nat} {a : (AV G)}, VRs e as vs → as[i]? = some a → ∃ v, vs[i]? = some v ∧ VR e a v
  | [], _, _, _, _, h => by simp at h
  | a :: as, _, 0, b, h, hi => by
    simp only [VRs] at h
    obtain ⟨v, vs', rfl, h2, _⟩ := h
    simp at hi; subst hi
    exact ⟨v, rfl, h2⟩
  | a :: as, _, i + 1, b, h, hi => by
    simp only [VRs] at h
    obtain ⟨v, vs', rfl, _, h3⟩ := h
    simpa using VRs.get h3 (by simpa using hi)

theorem VRs.of_get {e : (Env G)} : ∀ {as : List (AV G)} {vs : List Value}, vs.length = as.length → (∀ (i : Nat) (a : (AV G)), as[i]? = some a → ∃ v, vs[i]? = some v ∧ VR e a v) → VRs e as vs
  | [], vs, hl, _ => by simp only [VRs]; exact List.length_eq_zero_iff.1 hl
  | a :: as, [], hl, _ => by simp at hl
  | a :: as, v :: vs, hl, h => by
    simp only [VRs]
    obtain ⟨v', hv', hr⟩ := h 0 a rfl
    simp at hv'; subst hv'
    exact ⟨v, vs, rfl, hr, VRs.of_get (by simpa using hl) (fun i b hb => by simpa using h (i + 1) b (by simpa using hb))⟩

theorem VRs.append {e : (Env G)} : ∀ {as bs : List (AV G)} {vs ws : List Value}, VRs e as vs → VRs e bs ws → VRs e (as ++ bs) (vs ++ ws)
  | [], _, _, _, h, k => by simp only [VRs] at h; subst h; simpa using k
  | a :: as, _, _, _, h, k => by
    simp only [VRs] at h
    obtain ⟨v, vs', rfl, h2, h3⟩ := h
    simp only [List.cons_append, VRs]
    exact ⟨v, _, rfl, h2, VRs.append h3 k⟩

theorem VRs.set {e : (Env G)} : ∀ {as : List (AV G)} {vs : List Value} {i : Nat} {a : (AV G)} {v : Value}, VRs e as vs → VR e a v → VRs e (as.set i a) (vs.set i v)
  | [], _, _, _, _, h, _ => by simp only [VRs] at h; subst h; simp [VRs]
  | b :: as, _, 0, a, v, h, k => by
    simp only [VRs] at h
    obtain ⟨w, vs', rfl, _, h3⟩ := h
    simp only [List.set_cons_zero, VRs]
    exact ⟨v, vs', rfl, k, h3⟩
  | b :: as, _, i + 1, a, v, h, k => by
    simp only [VRs] at h
    obtain ⟨w, vs', rfl, h2, h3⟩ := h
    simp only [List.set_cons_succ, VRs]
    exact ⟨w, _, rfl, h2, VRs.set h3 k⟩

theorem VRs.take {e : (Env G)} : ∀ {as : List (AV G)} {vs : List Value} (n : Nat), VRs e as vs → VRs e (as.take n) (vs.take n)
  | [], _, n, h => by simp only [VRs] at h; subst h; simp [VRs]
  | a :: as, _, 0, h => by simp [VRs]
  | a :: as, _, n + 1, h => by
    simp only [VRs] at h
    obtain ⟨v, vs', rfl, h2, h3⟩ := h
    simp only [List.take_succ_cons, VRs]
    exact ⟨v, _, rfl, h2, VRs.take n h3⟩

theorem VRs.drop {e : (Env G)} : ∀ {as : List (AV G)} {vs : List Value} (n : Nat), VRs e as vs → VRs e (as.drop n) (vs.drop n)
  | [], _, n, h => by simp only [VRs] at h; subst h; simp [VRs]
  | a :: as, _, 0, h => by simpa using h
  | a :: as, _, n + 1, h => by
    simp only [VRs] at h
    obtain ⟨v, vs', rfl, h2, h3⟩ := h
    simpa using VRs.drop n h3

theorem VRs.replicate {e : (Env G)} {a : (AV G)} {v : Value} (h : VR e a v) : ∀ n, VRs e (List.replicate n a) (List.replicate n v)
  | 0 => by simp [VRs]
  | n + 1 => by simp only [List.replicate_succ, VRs]; exact ⟨v, _, rfl, h, VRs.replicate h n⟩

/-- A tree of numbered things. -/
inductive Tr (α : Type) where
  | nil
  | node (l : Tr α) (v : Option α) (r : Tr α)

namespace Tr
variable {α : Type}
-- (written with recursors, and with the numbers' own functions: the kernel is quick with those)
noncomputable def get (t : Tr α) : Nat → Option α :=
  Tr.rec (fun _ => none) (fun _ v _ gl gr k => Bool.rec (Bool.rec (gr (Nat.sub (Nat.div k (nat_lit 2)) (nat_lit 1))) (gl (Nat.div k (nat_lit 2))) (Nat.beq (Nat.mod k (nat_lit 2)) (nat_lit 1))) v (Nat.beq k (nat_lit 0))) t
noncomputable def left (t : Tr α) : Tr α := Tr.rec .nil (fun l _ _ _ _ => l) t
noncomputable def val (t : Tr α) : Option α := Tr.rec none (fun _ v _ _ _ => v) t
noncomputable def right (t : Tr α) : Tr α := Tr.rec .nil (fun _ _ r _ _ => r) t
noncomputable def setF (f : Nat) : Tr α → Nat → α → Tr α :=
  Nat.rec (fun t _ _ => t) (fun _ ih t k x =>
    Tr.rec (Bool.rec (Bool.rec (.node .nil none (ih .nil (Nat.sub (Nat.div k (nat_lit 2)) (nat_lit 1)) x)) (.node (ih .nil (Nat.div k (nat_lit 2)) x) none .nil) (Nat.beq (Nat.mod k (nat_lit 2)) (nat_lit 1))) (.node .nil (some x) .nil) (Nat.beq k (nat_lit 0)))
      (fun l v r _ _ => Bool.rec (Bool.rec (.node l v (ih r (Nat.sub (Nat.div k (nat_lit 2)) (nat_lit 1)) x)) (.node (ih l (Nat.div k (nat_lit 2)) x) v r) (Nat.beq (Nat.mod k (nat_lit 2)) (nat_lit 1))) (.node l (some x) r) (Nat.beq k (nat_lit 0))) t) f
noncomputable def set (t : Tr α) (k : Nat) (x : α) : Tr α := setF (Nat.succ k) t k x

theorem brec {β : Type} (b : Bool) (x y : β) : (Bool.rec x y b : β) = if b = true then y else x := by cases b <;> rfl

theorem beq_if {β : Type} (a b : Nat) (x y : β) : (if Nat.beq a b = true then x else y) = if a = b then x else y := by
  by_cases h : a = b
  · subst h; simp
  · rw [if_neg h, if_neg]; intro k; exact h (Nat.eq_of_beq_eq_true k)

theorem get_nil (k : Nat) : (nil : Tr α).get k = none := rfl

theorem get_parts (t : Tr α) (k : Nat) : t.get k = if k = 0 then t.val else if k % 2 = 1 then t.left.get (k / 2) else t.right.get (k / 2 - 1) := by
  cases t with
  | nil => simp [get_nil, val, left, right]
  | node l v r =>
    show (Bool.rec (Bool.rec (r.get (k / 2 - 1)) (l.get (k / 2)) (Nat.beq (k % 2) 1)) v (Nat.beq k 0) : Option α) = _
    rw [brec, brec, beq_if, beq_if]; rfl

theorem get_node (l : Tr α) (v : Option α) (r : Tr α) (k : Nat) : (node l v r).get k = if k = 0 then v else if k % 2 = 1 then l.get (k / 2) else r.get (k / 2 - 1) := get_parts _ _

theorem setF_succ (f : Nat) (t : Tr α) (k : Nat) (x : α) : setF (f + 1) t k x = if k = 0 then node t.left (some x) t.right else if k % 2 = 1 then node (setF f t.left (k / 2) x) t.val t.right else node t.left t.val (setF f t.right (k / 2 - 1) x) := by
  cases t with
  | nil =>
    show (Bool.rec (Bool.rec (node nil none (setF f nil (k / 2 - 1) x)) (node (setF f nil (k / 2) x) none nil) (Nat.beq (k % 2) 1)) (node nil (some x) nil) (Nat.beq k 0) : Tr α) = _
    rw [brec, brec, beq_if, beq_if]; rfl
  | node l v r =>
    show (Bool.rec (Bool.rec (node l v (setF f r (k / 2 - 1) x)) (node (setF f l (k / 2) x) v r) (Nat.beq (k % 2) 1)) (node l (some x) r) (Nat.beq k 0) : Tr α) = _
    rw [brec, brec, beq_if, beq_if]; rfl

theorem get_setF : ∀ (f : Nat) (t : Tr α) (k j : Nat) (x : α), k < f → (setF f t k x).get j = if j = k then some x else t.get j
  | 0, _, _, _, _, h => by omega
  | f + 1, t, k, j, x, h => by
    rw [get_parts t j, setF_succ]
    by_cases hk0 : k = 0
    · subst hk0
      simp only [if_true, get_node]
      by_cases hj : j = 0 <;> simp [hj]
    · simp only [hk0, if_false]
      by_cases hk1 : k % 2 = 1
      · simp only [hk1, if_true, get_node]
        by_cases hj0 : j = 0
        · have : ¬ (j = k) := by omega
          have : ¬ (0 = k) := by omega
          simp [hj0, this]
        · simp only [hj0, if_false]
          by_cases hj1 : j % 2 = 1
          · simp only [hj1, if_true]
            rw [get_setF f _ _ _ _ (by omega)]
            by_cases e : j = k
            · subst e; simp
            · have : ¬ (j / 2 = k / 2) := by omega
              simp [e, this]
          · simp only [hj1, if_false]
            have : ¬ (j = k) := by intro e; subst e; exact hj1 hk1
            simp [this]
      · simp only [hk1, if_false, get_node]
        by_cases hj0 : j = 0
        · have : ¬ (0 = k) := by omega
          simp [hj0, this]
        · simp only [hj0, if_false]
          by_cases hj1 : j % 2 = 1
          · simp only [hj1, if_true]
            have : ¬ (j = k) := by intro e; subst e; exact hk1 hj1
            simp [this]
          · simp only [hj1, if_false]
            rw [get_setF f _ _ _ _ (by omega)]
            by_cases e : j = k
            · subst e; simp
            · have : ¬ (j / 2 - 1 = k / 2 - 1) := by omega
              simp [e, this]

theorem get_set (t : Tr α) (k j : Nat) (x : α) : (t.set k x).get j = if j = k then some x else t.get j := get_setF (k + 1) t k j x (by omega)
theorem get_set_same (t : Tr α) (k : Nat) (x : α) : (t.set k x).get k = some x := by rw [get_set, if_pos rfl]
theorem get_set_other (t : Tr α) {k j : Nat} (x : α) (h : j ≠ k) : (t.set k x).get j = t.get j := by rw [get_set, if_neg h]
end Tr

/-- Temporaries. -/
structure TT (G : Ctx) where
  t : Tr (AV G)
  n : Nat

def undefA : (AV G) := .tuple []

def getV : Option (AV G) → (AV G)
  | some v => v
  | none => undefA

noncomputable def getT (x : (TT G)) (i : Nat) : (AV G) := getV (x.t.get i)
noncomputable def setT (x : (TT G)) (i : Nat) (v : (AV G)) : (TT G) := TT.rec (fun t n => Bool.rec ⟨t, n⟩ ⟨t.set i v, n⟩ (Nat.ble (Nat.succ i) n)) x
theorem setT_def (x : (TT G)) (i : Nat) (v : (AV G)) : setT x i v = if i < x.n then { t := x.t.set i v, n := x.n } else x := by
  show (Bool.rec ⟨x.t, x.n⟩ ⟨x.t.set i v, x.n⟩ (Nat.ble (Nat.succ i) x.n) : (TT G)) = _
  rw [Tr.brec]
  by_cases h : i < x.n
  · rw [if_pos h, if_pos (Nat.ble_eq_true_of_le h)]
  · rw [if_neg h, if_neg]; intro k; exact h (Nat.le_of_ble_eq_true k)
noncomputable def fillT : List (AV G) → Nat → Tr (AV G) → Tr (AV G)
  | [], _, t => t
  | a :: r, i, t => fillT r (i + 1) (t.set i a)
noncomputable def ofT (l : List (AV G)) (n : Nat) : (TT G) := { t := fillT l 0 .nil, n := l.length + (n - l.length) }

structure TRs (e : (Env G)) (x : (TT G)) (vs : Array Value) : Prop where
  size : vs.size = x.n
  out : ∀ i, x.n ≤ i → x.t.get i = none
  get : ∀ (i : Nat) (v : Value), vs[i]? = some v → VR e (getT x i) v

theorem TRs.mono {e e' : (Env G)} (h : e.le e') {x : (TT G)} {vs : Array Value} (k : TRs e x vs) : TRs e' x vs :=
  ⟨k.size, k.out, fun i v hv => (k.get i v hv).mono h⟩

theorem TRs.set_or {e : (Env G)} {x : (TT G)} {vs : Array Value} {d : Nat} {a : (AV G)} {v : Value} (h : TRs e x vs) (k : d < vs.size → VR e a v) : TRs e (setT x d a) (vs.setIfInBounds d v) := by
  have hsz := h.size
  rw [setT_def]
  by_cases hd : d < x.n
  · rw [if_pos hd]
    refine ⟨by simpa using h.size, fun i hi => ?_, fun i u hu => ?_⟩
    · have hi' : x.n ≤ i := hi
      show (x.t.set d a).get i = none
      rw [Tr.get_set_other _ _ (by omega)]; exact h.out i hi'
    · show VR e (getV ((x.t.set d a).get i)) u
      by_cases hid : i = d
      · subst hid
        rw [Tr.get_set_same]
        have hin : i < vs.size := by omega
        simp [hin] at hu
        subst hu; exact k hin
      · rw [Tr.get_set_other _ _ hid]
        rw [Array.getElem?_setIfInBounds_ne (Ne.symm hid)] at hu
        exact h.get i u hu
  · rw [if_neg hd, Array.setIfInBounds_eq_of_size_le (by omega)]
    exact h

theorem TRs.set {e : (Env G)} {x : (TT G)} {vs : Array Value} {d : Nat} {a : (AV G)} {v : Value} (h : TRs e x vs) (k : VR e a v) : TRs e (setT x d a) (vs.setIfInBounds d v) := h.set_or fun _ => k

theorem get_fillT : ∀ (l : List (AV G)) (k : Nat) (t : Tr (AV G)) (i : Nat), (fillT l k t).get i = if k ≤ i ∧ i < k + l.length then l[i - k]? else t.get i
  | [], k, t, i => by simp [fillT]; omega
  | a :: r, k, t, i => by
    unfold fillT
    rw [get_fillT r (k + 1)]
    by_cases h1 : i = k
    · subst h1
      rw [if_neg (by omega), if_pos (by simp), Tr.get_set_same]; simp
    · rw [Tr.get_set_other _ _ h1]
      by_cases h2 : k + 1 ≤ i ∧ i < k + 1 + r.length
      · rw [if_pos h2, if_pos (by simp only [List.length_cons]; omega)]
        have : i - k = (i - (k + 1)) + 1 := by omega
        rw [this]; simp
      · rw [if_neg h2, if_neg (by simp only [List.length_cons]; omega)]

theorem getT_none {x : (TT G)} {i : Nat} (h : x.t.get i = none) : getT x i = undefA := by unfold getT; rw [h]; rfl
end Go.Ev
end

noncomputable section
namespace Go.Ev
variable {G : Ctx}
open Go.RowKit

structure ADef (G : Ctx) where
  fn : FuncId
  captured : List (AV G)
  args : List (AV G)

structure ALoop (G : Ctx) where
  state : LoopState
  pending : Option Code
  tmps : (TT G)
  params : Array Tmp
  assign : Code
  body : Code
  defers : Nat

inductive AObj (G : Ctx) where
  | cells (vs : List (AV G)) (grp : Option Nat)
  | map (es : List ((AV G) × (AV G)))
  | loop (l : (ALoop G))
  | defd (calls : Option (List Unit))
  | dead

def AObj.owned : (AObj G) → Bool
  | .cells _ (some _) | .map _ | .loop _ | .defd _ => true
  | _ => false

structure AH (G : Ctx) where
  objs : Tr (AObj G)
  grps : Tr (List Nat)
  next : Nat
  ngrp : Nat

def EntsR (e : (Env G)) : List ((AV G) × (AV G)) → List MapEntry → Prop
  | [], es => es = []
  | (k, v) :: r, es => ∃ x es', es = x :: es' ∧ VR e k x.key ∧ VR e v x.val ∧ EntsR e r es'

theorem EntsR.mono {e e' : (Env G)} (h : e.le e') : ∀ {l : List ((AV G) × (AV G))} {es : List MapEntry}, EntsR e l es → EntsR e' l es
  | [], _, hv => by simpa [EntsR] using hv
  | (k, v) :: r, _, hv => by
    simp only [EntsR] at hv ⊢
    obtain ⟨x, es', h1, h2, h3, h4⟩ := hv
    exact ⟨x, es', h1, h2.mono h, h3.mono h, EntsR.mono h h4⟩

/-- A loop's record. -/
structure LoopR (e : (Env G)) (l : (ALoop G)) (L : Loop) : Prop where
  state : L.state = l.state
  pending : L.pending = l.pending
  tmps : TRs e l.tmps L.tmps
  params : L.params = l.params
  assign : L.assign = l.assign
  body : L.body = l.body
  defers : ∃ o, e.φ l.defers = some (L.defers, o)
  fn : e.fnok L.fn

theorem LoopR.mono {e e' : (Env G)} (h : e.le e') {l : (ALoop G)} {L : Loop} (k : LoopR e l L) : LoopR e' l L :=
  ⟨k.state, k.pending, k.tmps.mono h, k.params, k.assign, k.body, let ⟨o, ho⟩ := k.defers; ⟨o, h.φ _ _ ho⟩, by rw [h.fnok]; exact k.fn⟩

/-- What an object of the abstract heap says of the world. -/
def OR (e : (Env G)) (w : World) (id : Nat) : (AObj G) → Prop
  | .cells vs (some _) => ∃ b, e.φ id = some (b, 0) ∧ e.base ≤ b ∧ ∃ (c : Array Value) (t : TypeId), w.heap[b]? = some (.cells c t (0, 0)) ∧ e.room id ≤ c.size ∧ ∀ (i : Nat) (a : (AV G)), vs[i]? = some a → ∃ v, c[i]? = some v ∧ VR e a v
  | .cells vs none => ∃ b o, e.φ id = some (b, o) ∧ b < e.base ∧ ∀ (i : Nat) (a : (AV G)), vs[i]? = some a → ∃ v, w.cell? ⟨b, o + i, none⟩ = some v ∧ VR e a v
  | .map es => ∃ b o, e.φ id = some (b, o) ∧ e.base ≤ b ∧ ∃ (ents : Array MapEntry) (clk : Nat), w.heap[b]? = some (.map ents clk) ∧ EntsR e es ents.toList
  | .loop l => ∃ b o, e.φ id = some (b, o) ∧ e.base ≤ b ∧ ∃ L, w.heap[b]? = some (.loop L) ∧ LoopR e l L
  | .defd ds => ∃ b o, e.φ id = some (b, o) ∧ e.base ≤ b ∧ w.heap[b]? = some (.deferred (ds.map fun _ => []))
  | .dead => True

theorem OR.mono {e e' : (Env G)} (h : e.le e') {w : World} {id : Nat} : ∀ {o : (AObj G)}, OR e w id o → OR e' w id o
  | .cells vs (some _), k => by
    obtain ⟨b, h1, h2, c, t, h3, h5, h4⟩ := k
    exact ⟨b, h.φ _ _ h1, by rw [h.base]; exact h2, c, t, h3, by rw [h.room _ _ h1]; exact h5, fun i a hi => let ⟨v, hv, hr⟩ := h4 i a hi; ⟨v, hv, hr.mono h⟩⟩
  | .cells vs none, k => by
    obtain ⟨b, o, h1, h2, h4⟩ := k
    exact ⟨b, o, h.φ _ _ h1, by rw [h.base]; exact h2, fun i a hi => let ⟨v, hv, hr⟩ := h4 i a hi; ⟨v, hv, hr.mono h⟩⟩
  | .map es, k => by
    obtain ⟨b, o, h1, h2, c, t, h3, h4⟩ := k
    exact ⟨b, o, h.φ _ _ h1, by rw [h.base]; exact h2, c, t, h3, h4.mono h⟩
  | .loop l, k => by
    obtain ⟨b, o, h1, h2, L, h3, h4⟩ := k
    exact ⟨b, o, h.φ _ _ h1, by rw [h.base]; exact h2, L, h3, h4.mono h⟩
  | .defd ds, k => by
    obtain ⟨b, o, h1, h2, h3⟩ := k
    exact ⟨b, o, h.φ _ _ h1, by rw [h.base]; exact h2, h3⟩
  | .dead, _ => trivial

/-- The block that an object lies in is as it was: the object says of w' what it said of w. -/
theorem OR.same {e : (Env G)} {w w' : World} {id : Nat} {o : (AObj G)} (h : OR e w id o) (hb : ∀ b x, e.φ id = some (b, x) → w'.heap[b]? = w.heap[b]?) : OR e w' id o := by
  cases o with
  | cells vs g =>
    cases g with
    | some g =>
      obtain ⟨b, h1, h2, c, t, h3, h4⟩ := h
      exact ⟨b, h1, h2, c, t, (hb _ _ h1).trans h3, h4⟩
    | none =>
      obtain ⟨b, x, h1, h2, h4⟩ := h
      exact ⟨b, x, h1, h2, fun i a hi => let ⟨v, hv, hr⟩ := h4 i a hi; ⟨v, (World.cell?_of_block (hb _ _ h1)).trans hv, hr⟩⟩
  | map es => obtain ⟨b, x, h1, h2, c, t, h3, h4⟩ := h; exact ⟨b, x, h1, h2, c, t, (hb _ _ h1).trans h3, h4⟩
  | loop l => obtain ⟨b, x, h1, h2, L, h3, h4⟩ := h; exact ⟨b, x, h1, h2, L, (hb _ _ h1).trans h3, h4⟩
  | defd ds => obtain ⟨b, x, h1, h2, h3⟩ := h; exact ⟨b, x, h1, h2, (hb _ _ h1).trans h3⟩
  | dead => trivial

/-- Block r is one that the abstract heap owns. -/
def Owned (e : (Env G)) (h : (AH G)) (r : Nat) : Prop := ∃ id o x, h.objs.get id = some o ∧ o.owned = true ∧ e.φ id = some (r, x)

def AObj.sz : (AObj G) → Nat
  | .cells vs _ => vs.length
  | _ => 0

/-- The abstract heap and the world. -/
structure HR (e : (Env G)) (h : (AH G)) (w : World) : Prop where
  obj : ∀ id o, h.objs.get id = some o → OR e w id o
  /-- Two owned objects of one block are rows of cells of one group. -/
  sep : ∀ i j oi oj b x y, i ≠ j → h.objs.get i = some oi → h.objs.get j = some oj → oi.owned = true → oj.owned = true → e.φ i = some (b, x) → e.φ j = some (b, y) →
    ∃ vi vj g, oi = .cells vi (some g) ∧ oj = .cells vj (some g)
  /-- Every row is in its group's list; the newer a row, the longer. -/
  grp : ∀ id vs g, h.objs.get id = some (.cells vs (some g)) → ∃ st, h.grps.get g = some st ∧ id ∈ st
  ord : ∀ g st, h.grps.get g = some st → st.Pairwise fun i j => ∀ vi vj, h.objs.get i = some (.cells vi (some g)) → h.objs.get j = some (.cells vj (some g)) → vj.length ≤ vi.length
  fresh : ∀ id, h.next ≤ id → h.objs.get id = none
  freshφ : ∀ id, h.next ≤ id → e.φ id = none
  freshg : ∀ g, h.ngrp ≤ g → h.grps.get g = none
  gsmall : ∀ g st id, h.grps.get g = some st → id ∈ st → id < h.next
  base : e.base ≤ w.heap.size

theorem OR.block_lt {e : (Env G)} {w : World} {id : Nat} {o : (AObj G)} (h : OR e w id o) (ho : o.owned = true) {r x : Nat} (hφ : e.φ id = some (r, x)) : r < w.heap.size := by
  have key : ∀ {b : Nat} {O : Obj}, w.heap[b]? = some O → b < w.heap.size := fun h => (Array.getElem?_eq_some_iff.1 h).1
  cases o with
  | cells vs g =>
    cases g with
    | some g => obtain ⟨b, h1, _, c, t, h3, _⟩ := h; rw [h1] at hφ; cases hφ; exact key h3
    | none => cases ho
  | map es => obtain ⟨b, y, h1, _, c, t, h3, _⟩ := h; rw [h1] at hφ; cases hφ; exact key h3
  | loop l => obtain ⟨b, y, h1, _, L, h3, _⟩ := h; rw [h1] at hφ; cases hφ; exact key h3
  | defd ds => obtain ⟨b, y, h1, _, h3⟩ := h; rw [h1] at hφ; cases hφ; exact key h3
  | dead => cases ho

theorem OR.base_le {e : (Env G)} {w : World} {id : Nat} {o : (AObj G)} (h : OR e w id o) (ho : o.owned = true) {r x : Nat} (hφ : e.φ id = some (r, x)) : e.base ≤ r := by
  cases o with
  | cells vs g =>
    cases g with
    | some g => obtain ⟨b, h1, h2, _⟩ := h; rw [h1] at hφ; cases hφ; exact h2
    | none => cases ho
  | map es => obtain ⟨b, y, h1, h2, _⟩ := h; rw [h1] at hφ; cases hφ; exact h2
  | loop l => obtain ⟨b, y, h1, h2, _⟩ := h; rw [h1] at hφ; cases hφ; exact h2
  | defd ds => obtain ⟨b, y, h1, h2, _⟩ := h; rw [h1] at hφ; cases hφ; exact h2
  | dead => cases ho

theorem HR.owned_lt {e : (Env G)} {h : (AH G)} {w : World} (H : HR e h w) {r : Nat} (ho : Owned e h r) : r < w.heap.size ∧ e.base ≤ r := by
  obtain ⟨id, o, x, h1, h2, h3⟩ := ho
  exact ⟨(H.obj _ _ h1).block_lt h2 h3, (H.obj _ _ h1).base_le h2 h3⟩

/-- What a step of the abstract machine promises of the worlds. -/
structure St (e : (Env G)) (h : (AH G)) (w : World) (e' : (Env G)) (h' : (AH G)) (w' : World) : Prop where
  le : e.le e'
  hr : HR e' h' w'
  os : w'.os = w.os
  tape : w'.tape = w.tape
  output : w'.output = w.output
  size : w.heap.size ≤ w'.heap.size
  keep : ∀ r, r < w.heap.size → ¬ Owned e h r → w'.heap[r]? = w.heap[r]?
  own : ∀ r, r < w.heap.size → Owned e' h' r → Owned e h r
  next : h.next ≤ h'.next
  nob : ∀ id, id < h.next → e.φ id = none → e'.φ id = none

theorem St.refl {e : (Env G)} {h : (AH G)} {w : World} (H : HR e h w) : St e h w e h w :=
  ⟨.refl e, H, rfl, rfl, rfl, Nat.le_refl _, fun _ _ _ => rfl, fun _ _ h => h, Nat.le_refl _, fun _ _ h => h⟩

theorem St.trans {e e1 e2 : (Env G)} {h h1 h2 : (AH G)} {w w1 w2 : World} (a : St e h w e1 h1 w1) (b : St e1 h1 w1 e2 h2 w2) : St e h w e2 h2 w2 :=
  ⟨a.le.trans b.le, b.hr, b.os.trans a.os, b.tape.trans a.tape, b.output.trans a.output, Nat.le_trans a.size b.size,
   fun r hr hn => (b.keep r (Nat.lt_of_lt_of_le hr a.size) (fun ho => hn (a.own r hr ho))).trans (a.keep r hr hn),
   fun r hr ho => a.own r hr (b.own r (Nat.lt_of_lt_of_le hr a.size) ho), Nat.le_trans a.next b.next,
   fun id hid k => b.nob id (Nat.lt_of_lt_of_le hid a.next) (a.nob id hid k)⟩

theorem St.below {e e' : (Env G)} {h h' : (AH G)} {w w' : World} (a : St e h w e' h' w') (H : HR e h w) : Below e.base w w' :=
  ⟨a.os, a.tape, a.output, a.size, fun k hk => a.keep k (Nat.lt_of_lt_of_le hk H.base) (fun ho => by have := (H.owned_lt ho).2; omega)⟩

/-- A draw. -/
theorem St.drew {e : (Env G)} {h : (AH G)} {w : World} (H : HR e h w) : St e h w e h w.drew :=
  ⟨.refl e, ⟨fun id o ho => (H.obj id o ho).same (fun _ _ _ => rfl), H.sep, H.grp, H.ord, H.fresh, H.freshφ, H.freshg, H.gsmall, H.base⟩, rfl, rfl, rfl, Nat.le_refl _, fun _ _ _ => rfl, fun _ _ h => h, Nat.le_refl _, fun _ _ h => h⟩

end Go.Ev
end

noncomputable section
namespace Go.Ev
variable {G : Ctx}
open Go.RowKit

def Env.bind (e : (Env G)) (id b r : Nat) : (Env G) := { e with φ := fun i => if i = id then some (b, 0) else e.φ i, room := fun i => if i = id then r else e.room i }

theorem Env.le_bind {e : (Env G)} {id b r : Nat} (h : e.φ id = none) : e.le (e.bind id b r) := by
  refine ⟨fun i x hx => ?_, rfl, rfl, fun i x hx => ?_, rfl⟩
  · have : i ≠ id := fun k => by rw [k, h] at hx; cases hx
    simpa [Env.bind, this] using hx
  · have : i ≠ id := fun k => by rw [k, h] at hx; cases hx
    simp [Env.bind, this]

theorem Env.bind_room (e : (Env G)) (id b r : Nat) : (e.bind id b r).room id = r := by simp [Env.bind]
theorem Env.bind_same (e : (Env G)) (id b r : Nat) : (e.bind id b r).φ id = some (b, 0) := by simp [Env.bind]
theorem Env.bind_other (e : (Env G)) {id i : Nat} (b r : Nat) (h : i ≠ id) : (e.bind id b r).φ i = e.φ i := by simp [Env.bind, h]

def AH.allocC (h : (AH G)) (vs : List (AV G)) : (AH G) :=
  { objs := h.objs.set h.next (.cells vs (some h.ngrp)), grps := h.grps.set h.ngrp [h.next], next := h.next + 1, ngrp := h.ngrp + 1 }

def AH.allocO (h : (AH G)) (o : (AObj G)) : (AH G) := { h with objs := h.objs.set h.next o, next := h.next + 1 }

theorem alloc_old (w : World) (O : Obj) {r : Nat} (h : r < w.heap.size) : (w.alloc O).heap[r]? = w.heap[r]? := heap_alloc_old w O r h

/-- Objects other than the new one. -/
theorem OR.alloc {e : (Env G)} {w : World} {id n r : Nat} {o : (AObj G)} (O : Obj) (H : OR e w id o) (hle : e.le (e.bind n w.heap.size r)) (hb : e.base ≤ w.heap.size) : OR (e.bind n w.heap.size r) (w.alloc O) id o := by
  have h1 : OR e (w.alloc O) id o := by
    have key : ∀ {b : Nat} {X : Obj}, w.heap[b]? = some X → (w.alloc O).heap[b]? = some X := fun {b} {X} hx => by
      rw [alloc_old w O (Array.getElem?_eq_some_iff.1 hx).1]; exact hx
    cases o with
    | cells vs g =>
      cases g with
      | some g => obtain ⟨b, h1, h2, c, t, h3, h4⟩ := H; exact ⟨b, h1, h2, c, t, key h3, h4⟩
      | none =>
        obtain ⟨b, x, h1, h2, h4⟩ := H
        exact ⟨b, x, h1, h2, fun i a hi => let ⟨v, hv, hr⟩ := h4 i a hi; ⟨v, (World.cell?_of_block (a := ⟨b, x + i, none⟩) (alloc_old w O (by show b < _; omega))).trans hv, hr⟩⟩
    | map es => obtain ⟨b, x, h1, h2, c, t, h3, h4⟩ := H; exact ⟨b, x, h1, h2, c, t, key h3, h4⟩
    | loop l => obtain ⟨b, x, h1, h2, L, h3, h4⟩ := H; exact ⟨b, x, h1, h2, L, key h3, h4⟩
    | defd ds => obtain ⟨b, x, h1, h2, h3⟩ := H; exact ⟨b, x, h1, h2, key h3⟩
    | dead => trivial
  exact h1.mono hle

theorem St.allocC {e : (Env G)} {h : (AH G)} {w : World} (H : HR e h w) (vs : List (AV G)) (c : Array Value) (t : TypeId) (hv : ∀ (i : Nat) (a : (AV G)), vs[i]? = some a → ∃ v, c[i]? = some v ∧ VR e a v) :
    St e h w (e.bind h.next w.heap.size c.size) (h.allocC vs) (w.alloc (.cells c t)) := by
  have hle : e.le (e.bind h.next w.heap.size c.size) := Env.le_bind (H.freshφ _ (Nat.le_refl _))
  have hget : ∀ id, (h.allocC vs).objs.get id = if id = h.next then some (.cells vs (some h.ngrp)) else h.objs.get id := fun id => Tr.get_set _ _ _ _
  have hgg : ∀ g, (h.allocC vs).grps.get g = if g = h.ngrp then some [h.next] else h.grps.get g := fun g => Tr.get_set _ _ _ _
  have hnew : w.heap.size < (w.alloc (.cells c t)).heap.size := by simp
  have hlt : ∀ {i o x y}, h.objs.get i = some o → o.owned = true → e.φ i = some (x, y) → x < w.heap.size := fun h1 h2 h3 => (H.obj _ _ h1).block_lt h2 h3
  refine ⟨hle, ?_, rfl, rfl, rfl, by simp, fun r hr _ => alloc_old w _ hr, ?_, Nat.le_succ _, fun id hid k => by rw [Env.bind_other _ _ _ (Nat.ne_of_lt hid)]; exact k⟩
  · refine ⟨?_, ?_, ?_, ?_, ?_, ?_, ?_, ?_, ?_⟩
    · intro id o ho
      rw [hget] at ho
      by_cases hid : id = h.next
      · rw [if_pos hid] at ho; cases ho; subst hid
        refine ⟨w.heap.size, Env.bind_same _ _ _ _, H.base, c, t, heap_alloc_new w _, by rw [Env.bind_room]; exact Nat.le_refl _, fun i a hi => ?_⟩
        obtain ⟨v, h1, h2⟩ := hv i a hi
        exact ⟨v, h1, h2.mono hle⟩
      · rw [if_neg hid] at ho
        exact (H.obj id o ho).alloc _ hle H.base
    · intro i j oi oj b x y hij hi hj hoi hoj hφi hφj
      rw [hget] at hi hj
      by_cases h1 : i = h.next
      · by_cases h2 : j = h.next
        · exact absurd (h1.trans h2.symm) hij
        · rw [if_neg h2] at hj
          rw [Env.bind_other _ _ _ h2] at hφj
          rw [h1, Env.bind_same] at hφi
          cases hφi
          exact absurd (hlt hj hoj hφj) (Nat.lt_irrefl _)
      · rw [if_neg h1] at hi
        rw [Env.bind_other _ _ _ h1] at hφi
        by_cases h2 : j = h.next
        · rw [h2, Env.bind_same] at hφj
          cases hφj
          exact absurd (hlt hi hoi hφi) (Nat.lt_irrefl _)
        · rw [if_neg h2] at hj
          rw [Env.bind_other _ _ _ h2] at hφj
          exact H.sep i j oi oj b x y hij hi hj hoi hoj hφi hφj
    · intro id us g ho
      rw [hget] at ho
      by_cases hid : id = h.next
      · rw [if_pos hid] at ho; cases ho
        exact ⟨[h.next], by rw [hgg, if_pos rfl], by simp [hid]⟩
      · rw [if_neg hid] at ho
        obtain ⟨st, h1, h2⟩ := H.grp id us g ho
        have : g ≠ h.ngrp := fun k => by rw [H.freshg g (by omega)] at h1; cases h1
        exact ⟨st, by rw [hgg, if_neg this]; exact h1, h2⟩
    · intro g st hst
      rw [hgg] at hst
      by_cases hg : g = h.ngrp
      · rw [if_pos hg] at hst; cases hst; simp
      · rw [if_neg hg] at hst
        refine (H.ord g st hst).imp_of_mem (fun {i j} hi hj hp vi vj h1 h2 => ?_)
        have hi' := H.gsmall g st i hst hi
        have hj' := H.gsmall g st j hst hj
        rw [hget, if_neg (by omega)] at h1 h2
        exact hp vi vj h1 h2
    · intro id hid
      have hid' : h.next + 1 ≤ id := hid
      rw [hget, if_neg (by omega)]
      exact H.fresh id (by omega)
    · intro id hid
      have hid' : h.next + 1 ≤ id := hid
      rw [Env.bind_other _ _ _ (by omega)]
      exact H.freshφ id (by omega)
    · intro g hg
      have hg' : h.ngrp + 1 ≤ g := hg
      rw [hgg, if_neg (by omega)]
      exact H.freshg g (by omega)
    · intro g st id hst hid
      show id < h.next + 1
      rw [hgg] at hst
      by_cases hg : g = h.ngrp
      · rw [if_pos hg] at hst; cases hst; simp at hid; omega
      · rw [if_neg hg] at hst
        have := H.gsmall g st id hst hid; omega
    · show e.base ≤ _
      have := H.base; simp; omega
  · intro r hr ⟨id, o, x, h1, h2, h3⟩
    rw [hget] at h1
    by_cases hid : id = h.next
    · rw [hid, Env.bind_same] at h3; cases h3; omega
    · rw [if_neg hid] at h1
      rw [Env.bind_other _ _ _ hid] at h3
      exact ⟨id, o, x, h1, h2, h3⟩

theorem St.allocO {e : (Env G)} {h : (AH G)} {w : World} (H : HR e h w) (o : (AObj G)) (O : Obj) (ho : ∀ vs g, o ≠ .cells vs g) (hv : OR (e.bind h.next w.heap.size 0) (w.alloc O) h.next o) :
    St e h w (e.bind h.next w.heap.size 0) (h.allocO o) (w.alloc O) := by
  have hle : e.le (e.bind h.next w.heap.size 0) := Env.le_bind (H.freshφ _ (Nat.le_refl _))
  have hget : ∀ id, (h.allocO o).objs.get id = if id = h.next then some o else h.objs.get id := fun id => Tr.get_set _ _ _ _
  have hlt : ∀ {i o x y}, h.objs.get i = some o → o.owned = true → e.φ i = some (x, y) → x < w.heap.size := fun h1 h2 h3 => (H.obj _ _ h1).block_lt h2 h3
  refine ⟨hle, ?_, rfl, rfl, rfl, by simp, fun r hr _ => alloc_old w _ hr, ?_, Nat.le_succ _, fun id hid k => by rw [Env.bind_other _ _ _ (Nat.ne_of_lt hid)]; exact k⟩
  · refine ⟨?_, ?_, ?_, ?_, ?_, ?_, ?_, ?_, ?_⟩
    · intro id o' ho'
      rw [hget] at ho'
      by_cases hid : id = h.next
      · rw [if_pos hid] at ho'; cases ho'; subst hid; exact hv
      · rw [if_neg hid] at ho'
        exact (H.obj id o' ho').alloc _ hle H.base
    · intro i j oi oj b x y hij hi hj hoi hoj hφi hφj
      rw [hget] at hi hj
      by_cases h1 : i = h.next
      · by_cases h2 : j = h.next
        · exact absurd (h1.trans h2.symm) hij
        · rw [if_neg h2] at hj
          rw [Env.bind_other _ _ _ h2] at hφj
          rw [h1, Env.bind_same] at hφi
          cases hφi
          exact absurd (hlt hj hoj hφj) (Nat.lt_irrefl _)
      · rw [if_neg h1] at hi
        rw [Env.bind_other _ _ _ h1] at hφi
        by_cases h2 : j = h.next
        · rw [h2, Env.bind_same] at hφj
          cases hφj
          exact absurd (hlt hi hoi hφi) (Nat.lt_irrefl _)
        · rw [if_neg h2] at hj
          rw [Env.bind_other _ _ _ h2] at hφj
          exact H.sep i j oi oj b x y hij hi hj hoi hoj hφi hφj
    · intro id us g ho'
      rw [hget] at ho'
      by_cases hid : id = h.next
      · rw [if_pos hid] at ho'; cases ho'; exact absurd rfl (ho _ _)
      · rw [if_neg hid] at ho'
        exact H.grp id us g ho'
    · intro g st hst
      refine (H.ord g st hst).imp_of_mem (fun {i j} hi hj hp vi vj h1 h2 => ?_)
      have hi' := H.gsmall g st i hst hi
      have hj' := H.gsmall g st j hst hj
      rw [hget, if_neg (by omega)] at h1 h2
      exact hp vi vj h1 h2
    · intro id hid
      have hid' : h.next + 1 ≤ id := hid
      rw [hget, if_neg (by omega)]
      exact H.fresh id (by omega)
    · intro id hid
      have hid' : h.next + 1 ≤ id := hid
      rw [Env.bind_other _ _ _ (by omega)]
      exact H.freshφ id (by omega)
    · exact H.freshg
    · intro g st id hst hid
      have := H.gsmall g st id hst hid
      show id < h.next + 1
      omega
    · show e.base ≤ _
      have := H.base; simp; omega
  · intro r hr ⟨id, o', x, h1, h2, h3⟩
    rw [hget] at h1
    by_cases hid : id = h.next
    · rw [hid, Env.bind_same] at h3; cases h3; omega
    · rw [if_neg hid] at h1
      rw [Env.bind_other _ _ _ hid] at h3
      exact ⟨id, o', x, h1, h2, h3⟩
end Go.Ev
end

noncomputable section
namespace Go.Ev
variable {G : Ctx}
open Go.RowKit

def splice (vs : List (AV G)) (off : Nat) (cs : List (AV G)) : List (AV G) := vs.take off ++ cs ++ vs.drop (off + cs.length)

def killIn : Tr (AObj G) → List Nat → Nat → Tr (AObj G)
  | t, [], _ => t
  | t, j :: r, id => if j = id then killIn t r id else killIn (t.set j .dead) r id

theorem get_killIn : ∀ (st : List Nat) (t : Tr (AObj G)) (id j : Nat), (killIn t st id).get j = if j ∈ st ∧ j ≠ id then some .dead else t.get j
  | [], t, id, j => by simp [killIn]
  | i :: r, t, id, j => by
    unfold killIn
    by_cases hi : i = id
    · rw [if_pos hi, get_killIn r t id j]
      by_cases hj : j ∈ r ∧ j ≠ id
      · simp [hj]
      · by_cases hji : j = i
        · subst hji; simp [hi]
        · simp [hj, hji]
    · rw [if_neg hi, get_killIn r _ id j, Tr.get_set]
      by_cases hji : j = i
      · subst hji; simp [hi]
      · simp [hji]

def AH.write (h : (AH G)) (id off : Nat) (cs : List (AV G)) : Option (AH G) :=
  match h.objs.get id with
  | some (.cells vs (some g)) =>
    if off + cs.length ≤ vs.length then
      match h.grps.get g with
      | some st => some { h with objs := (killIn h.objs st id).set id (.cells (splice vs off cs) (some g)), grps := match st with | [_] => h.grps | _ => h.grps.set g [id] }
      | none => none
    else none
  | _ => none

theorem setCells_other (b : Nat) : ∀ (vs : List Value) (o : Nat) (w : World) (r : Nat), r ≠ b → (w.setCells b o vs).heap[r]? = w.heap[r]?
  | [], _, _, _, _ => rfl
  | v :: vs, o, w, r, h => by
    rw [World.setCells, setCells_other b vs (o + 1) _ r h]
    exact heap_setCell_other w ⟨b, o, none⟩ r v h

theorem setCells_size (b : Nat) : ∀ (vs : List Value) (o : Nat) (w : World), (w.setCells b o vs).heap.size = w.heap.size
  | [], _, _ => rfl
  | v :: vs, o, w => by rw [World.setCells, setCells_size b vs, World.size_setCell]

theorem setCells_os (b : Nat) : ∀ (vs : List Value) (o : Nat) (w : World), (w.setCells b o vs).os = w.os ∧ (w.setCells b o vs).tape = w.tape ∧ (w.setCells b o vs).output = w.output
  | [], _, _ => ⟨rfl, rfl, rfl⟩
  | v :: vs, o, w => by rw [World.setCells]; exact setCells_os b vs (o + 1) _

theorem setCell_row (w : World) (b o : Nat) (v : Value) (c : Array Value) (t : TypeId) (fr : Nat × Nat) (h : w.heap[b]? = some (.cells c t fr)) :
    (w.setCell ⟨b, o, none⟩ v).heap[b]? = some (.cells (c.setIfInBounds o v) t fr) := by
  simp [World.setCell, Array.getElem?_modify, h]

theorem setCells_row (b : Nat) : ∀ (vs : List Value) (o : Nat) (w : World) (c : Array Value) (t : TypeId) (fr : Nat × Nat), w.heap[b]? = some (.cells c t fr) →
    ∃ c', (w.setCells b o vs).heap[b]? = some (.cells c' t fr) ∧ c'.size = c.size ∧ (∀ i, i < o ∨ o + vs.length ≤ i → c'[i]? = c[i]?) ∧ ∀ j, j < vs.length → o + j < c.size → c'[o + j]? = vs[j]?
  | [], o, w, c, t, fr, h => ⟨c, h, rfl, fun _ _ => rfl, fun j hj => by simp at hj⟩
  | v :: vs, o, w, c, t, fr, h => by
    obtain ⟨c', h1, h2, h3, h4⟩ := setCells_row b vs (o + 1) (w.setCell ⟨b, o, none⟩ v) _ t fr (setCell_row w b o v c t fr h)
    refine ⟨c', h1, by simpa using h2, fun i hi => ?_, fun j hj ho => ?_⟩
    · simp at hi
      rw [h3 i (by omega), Array.getElem?_setIfInBounds_ne (by omega)]
    · cases j with
      | zero =>
        rw [h3 (o + 0) (by omega)]
        simp at ho
        simp [ho]
      | succ j =>
        simp at hj
        have := h4 j (by omega) (by simp; omega)
        rw [show o + (j + 1) = o + 1 + j by omega, this]
        simp

theorem length_splice {vs : List (AV G)} {off : Nat} {cs : List (AV G)} (h : off + cs.length ≤ vs.length) : (splice vs off cs).length = vs.length := by
  simp [splice]; omega

theorem get_splice_lo {vs : List (AV G)} {off : Nat} {cs : List (AV G)} (h : off + cs.length ≤ vs.length) {i : Nat} (hi : i < off) : (splice vs off cs)[i]? = vs[i]? := by
  unfold splice
  rw [List.append_assoc, List.getElem?_append_left (by simp; omega), List.getElem?_take, if_pos hi]

theorem get_splice_in {vs : List (AV G)} {off : Nat} {cs : List (AV G)} (h : off + cs.length ≤ vs.length) {j : Nat} (hj : j < cs.length) : (splice vs off cs)[off + j]? = cs[j]? := by
  unfold splice
  have hl : (vs.take off).length = off := by simp; omega
  rw [List.append_assoc, List.getElem?_append_right (by omega), hl, Nat.add_sub_cancel_left, List.getElem?_append_left hj]

theorem get_splice_hi {vs : List (AV G)} {off : Nat} {cs : List (AV G)} (h : off + cs.length ≤ vs.length) {i : Nat} (hi : off + cs.length ≤ i) : (splice vs off cs)[i]? = vs[i]? := by
  unfold splice
  have hl : (vs.take off).length = off := by simp; omega
  rw [List.getElem?_append_right (by simp; omega)]
  simp only [List.length_append, hl, List.getElem?_drop]
  congr 1
  omega

theorem St.write {e : (Env G)} {h h' : (AH G)} {w : World} (H : HR e h w) {id off b x : Nat} {cs : List (AV G)} {vals : List Value} (hw : h.write id off cs = some h') (hv : VRs e cs vals) (hb : e.φ id = some (b, x)) :
    St e h w e h' (w.setCells b off vals) ∧ (∀ j, j < vals.length → (w.cell? ⟨b, off + j, none⟩).isSome = true) ∧ (∀ j, j < vals.length → w.frozen? ⟨b, off + j, none⟩ = false) ∧ x = 0 := by
  unfold AH.write at hw
  split at hw
  · rename_i vs g hid
    split at hw
    · rename_i hlen
      split at hw
      · rename_i st hst
        have hw := Option.some.inj hw
        have hobj := H.obj _ _ hid
        obtain ⟨b', hφ, hbase, c, t, hc, hrm, hcv⟩ := hobj
        rw [hb] at hφ
        obtain ⟨rfl, rfl⟩ : b = b' ∧ x = 0 := by simpa using hφ
        have hvl := hv.length
        have hcsz : off + vals.length ≤ c.size := by
          by_cases hz : cs.length = 0
          · rw [hvl, hz]
            by_cases ho : off = 0
            · omega
            · obtain ⟨v, h1, _⟩ := hcv (off - 1) vs[off - 1] (List.getElem?_eq_getElem (by omega))
              have := (Array.getElem?_eq_some_iff.1 h1).1; omega
          · obtain ⟨v, h1, _⟩ := hcv (off + cs.length - 1) (vs[off + cs.length - 1]'(by omega)) (List.getElem?_eq_getElem (by omega))
            have := (Array.getElem?_eq_some_iff.1 h1).1; omega
        obtain ⟨c', hc1, hc2, hc3, hc4⟩ := setCells_row b vals off w c t (0, 0) hc
        have hget : ∀ j, h'.objs.get j = if j = id then some (.cells (splice vs off cs) (some g)) else if j ∈ st then some .dead else h.objs.get j := by
          intro j
          rw [← hw]
          show (((killIn h.objs st id).set id _).get j) = _
          rw [Tr.get_set, get_killIn]
          by_cases hj : j = id <;> simp [hj]
        have hgrp : ∀ g', h'.grps.get g' = if g' = g then some [id] else h.grps.get g' := by
          intro g'
          rw [← hw]
          have hmem : id ∈ st := by obtain ⟨st', h1, h2⟩ := H.grp _ _ _ hid; rw [hst] at h1; cases h1; exact h2
          cases st with
          | nil => cases hmem
          | cons a r =>
            cases r with
            | nil =>
              obtain rfl : id = a := by simpa using hmem
              show h.grps.get g' = _
              by_cases hg : g' = g
              · rw [if_pos hg, hg, hst]
              · rw [if_neg hg]
            | cons _ _ => exact Tr.get_set _ _ _ _
        have hnext : h'.next = h.next ∧ h'.ngrp = h.ngrp := by rw [← hw]; exact ⟨rfl, rfl⟩
        have hmem : id ∈ st := by obtain ⟨st', h1, h2⟩ := H.grp _ _ _ hid; rw [hst] at h1; cases h1; exact h2
        -- an object that is left and owned, and not id, lies in another block
        have hother : ∀ j o y b', j ≠ id → j ∉ st → h.objs.get j = some o → e.φ j = some (b', y) → (o.owned = true ∨ ∃ us, o = .cells us none) → b' ≠ b := by
          intro j o y b' hj hjs ho hφj hown
          rcases hown with hown | ⟨us, rfl⟩
          · intro hbb
            subst hbb
            obtain ⟨vi, vj, g', h1, h2⟩ := H.sep j id o _ b' y 0 hj ho hid hown rfl hφj hb
            cases h2
            obtain ⟨st', h3, h4⟩ := H.grp j vi g (by rw [ho, h1])
            rw [hst] at h3; cases h3
            exact hjs h4
          · obtain ⟨b2, o2, h1, h2, _⟩ := H.obj _ _ ho
            rw [hφj] at h1; cases h1
            omega
        have hkeep : ∀ r, r ≠ b → (w.setCells b off vals).heap[r]? = w.heap[r]? := fun r hr => setCells_other b vals off w r hr
        have hHR : HR e h' (w.setCells b off vals) := by
          refine ⟨?_, ?_, ?_, ?_, ?_, ?_, ?_, ?_, ?_⟩
          · intro j o ho
            rw [hget] at ho
            by_cases hj : j = id
            · rw [if_pos hj] at ho; cases ho; subst hj
              refine ⟨b, hb, hbase, c', t, hc1, by rw [hc2]; exact hrm, fun i a hi => ?_⟩
              have hil : i < vs.length := by have := (List.getElem?_eq_some_iff.1 hi).1; rwa [length_splice hlen] at this
              by_cases h1 : i < off
              · rw [get_splice_lo hlen h1] at hi
                rw [hc3 i (.inl h1)]; exact hcv i a hi
              · by_cases h2 : off + cs.length ≤ i
                · rw [get_splice_hi hlen h2] at hi
                  rw [hc3 i (.inr (by omega))]; exact hcv i a hi
                · obtain ⟨k, rfl⟩ : ∃ k, i = off + k := ⟨i - off, by omega⟩
                  rw [get_splice_in hlen (by omega)] at hi
                  obtain ⟨v, hv1, hv2⟩ := hv.get hi
                  exact ⟨v, by rw [hc4 k (by omega) (by omega)]; exact hv1, hv2⟩
            · rw [if_neg hj] at ho
              by_cases hjs : j ∈ st
              · rw [if_pos hjs] at ho; cases ho; trivial
              · rw [if_neg hjs] at ho
                have hO := H.obj j o ho
                cases o with
                | dead => trivial
                | cells us gg =>
                  cases gg with
                  | none => exact hO.same fun b' y hφ => hkeep _ (hother j _ y b' hj hjs ho hφ (.inr ⟨us, rfl⟩))
                  | some g' => exact hO.same fun b' y hφ => hkeep _ (hother j _ y b' hj hjs ho hφ (.inl rfl))
                | map es => exact hO.same fun b' y hφ => hkeep _ (hother j _ y b' hj hjs ho hφ (.inl rfl))
                | loop l => exact hO.same fun b' y hφ => hkeep _ (hother j _ y b' hj hjs ho hφ (.inl rfl))
                | defd ds => exact hO.same fun b' y hφ => hkeep _ (hother j _ y b' hj hjs ho hφ (.inl rfl))
          · intro i j oi oj b' y z hij hi hj hoi hoj hφi hφj
            rw [hget] at hi hj
            by_cases h1 : i = id
            · have h2 : ¬ j = id := fun k => hij (h1.trans k.symm)
              rw [if_neg h2] at hj
              by_cases h3 : j ∈ st
              · rw [if_pos h3] at hj; cases hj; cases hoj
              · rw [if_neg h3] at hj
                subst h1; rw [hb] at hφi; cases hφi
                exact absurd rfl (hother j oj z _ h2 h3 hj hφj (.inl hoj))
            · rw [if_neg h1] at hi
              by_cases h4 : i ∈ st
              · rw [if_pos h4] at hi; cases hi; cases hoi
              · rw [if_neg h4] at hi
                by_cases h2 : j = id
                · subst h2; rw [hb] at hφj; cases hφj
                  exact absurd rfl (hother i oi y _ h1 h4 hi hφi (.inl hoi))
                · rw [if_neg h2] at hj
                  by_cases h3 : j ∈ st
                  · rw [if_pos h3] at hj; cases hj; cases hoj
                  · rw [if_neg h3] at hj
                    exact H.sep i j oi oj b' y z hij hi hj hoi hoj hφi hφj
          · intro j us g' ho
            rw [hget] at ho
            rw [hgrp]
            by_cases hj : j = id
            · rw [if_pos hj] at ho; cases ho
              exact ⟨[id], by rw [if_pos rfl], by simp [hj]⟩
            · rw [if_neg hj] at ho
              by_cases hjs : j ∈ st
              · rw [if_pos hjs] at ho; cases ho
              · rw [if_neg hjs] at ho
                obtain ⟨st', h1, h2⟩ := H.grp j us g' ho
                have : g' ≠ g := fun k => by subst k; rw [hst] at h1; cases h1; exact hjs h2
                exact ⟨st', by rw [if_neg this]; exact h1, h2⟩
          · intro g' st' hst'
            rw [hgrp] at hst'
            by_cases hg : g' = g
            · rw [if_pos hg] at hst'; cases hst'; simp
            · rw [if_neg hg] at hst'
              refine (H.ord g' st' hst').imp (fun {i j} hp vi vj h1 h2 => ?_)
              have hne : ∀ {k vk}, h'.objs.get k = some (.cells vk (some g')) → h.objs.get k = some (.cells vk (some g')) := by
                intro k vk hk
                rw [hget] at hk
                by_cases h1 : k = id
                · rw [if_pos h1] at hk; cases hk; exact absurd rfl hg
                · rw [if_neg h1] at hk
                  by_cases h2 : k ∈ st
                  · rw [if_pos h2] at hk; cases hk
                  · rwa [if_neg h2] at hk
              exact hp vi vj (hne h1) (hne h2)
          · intro j hj
            rw [hnext.1] at hj
            have hid' : id < h.next := by
              apply Nat.lt_of_not_le; intro k; rw [H.fresh id k] at hid; cases hid
            rw [hget, if_neg (by omega), if_neg (fun k => by have := H.gsmall g st j hst k; omega)]
            exact H.fresh j hj
          · intro j hj; rw [hnext.1] at hj; exact H.freshφ j hj
          · intro g' hg'
            rw [hnext.2] at hg'
            have : g' ≠ g := fun k => by rw [k] at hg'; rw [H.freshg g hg'] at hst; cases hst
            rw [hgrp, if_neg this]
            exact H.freshg g' hg'
          · intro g' st' j hst' hj
            rw [hnext.1]
            rw [hgrp] at hst'
            by_cases hg : g' = g
            · rw [if_pos hg] at hst'; cases hst'; simp at hj; subst hj; exact H.gsmall g st _ hst hmem
            · rw [if_neg hg] at hst'; exact H.gsmall g' st' j hst' hj
          · show e.base ≤ _; rw [setCells_size]; exact H.base
        refine ⟨⟨.refl e, hHR, (setCells_os b vals off w).1, (setCells_os b vals off w).2.1, (setCells_os b vals off w).2.2, by rw [setCells_size]; exact Nat.le_refl _, fun r _ hn => hkeep r (fun k => hn ?_), ?_, ?_, fun _ _ k => k⟩, ?_, ?_, rfl⟩
        · subst k; exact ⟨id, _, _, hid, rfl, hb⟩
        · intro r _ ⟨j, o, y, h1, h2, h3⟩
          rw [hget] at h1
          by_cases hj : j = id
          · subst hj; exact ⟨j, _, y, hid, rfl, h3⟩
          · rw [if_neg hj] at h1
            by_cases hjs : j ∈ st
            · rw [if_pos hjs] at h1; cases h1; cases h2
            · rw [if_neg hjs] at h1; exact ⟨j, o, y, h1, h2, h3⟩
        · rw [hnext.1]; exact Nat.le_refl _
        · intro j hj
          rw [cell_of_row w b _ c t (0, 0) hc]
          simp; omega
        · intro j hj
          exact frozen_of_row w b _ c t hc
      · cases hw
    · cases hw
  · cases hw
end Go.Ev
end

noncomputable section
namespace Go.Ev
variable {G : Ctx}
open Go.RowKit

def killPre : Tr (AObj G) → List Nat → Nat → Tr (AObj G)
  | t, [], _ => t
  | t, j :: r, id => if j = id then t else killPre (t.set j .dead) r id

def dropTo : List Nat → Nat → List Nat
  | [], _ => []
  | j :: r, id => if j = id then j :: r else dropTo r id

def inPre : List Nat → Nat → Nat → Prop
  | [], _, _ => False
  | i :: r, id, j => i ≠ id ∧ (j = i ∨ inPre r id j)

theorem get_killPre_of : ∀ (st : List Nat) (t : Tr (AObj G)) (id j : Nat), inPre st id j → (killPre t st id).get j = some .dead
  | i :: r, t, id, j, h => by
    obtain ⟨h1, h2⟩ := h
    unfold killPre
    rw [if_neg h1]
    by_cases hp : inPre r id j
    · exact get_killPre_of r _ id j hp
    · rcases h2 with rfl | h2
      · have key : ∀ (r : List Nat) (t : Tr (AObj G)), ¬ inPre r id j → (killPre t r id).get j = t.get j := by
          intro r
          induction r with
          | nil => intro t _; rfl
          | cons a r ih =>
            intro t hn
            unfold killPre
            by_cases ha : a = id
            · rw [if_pos ha]
            · rw [if_neg ha]
              have hja : j ≠ a := fun k => hn ⟨ha, .inl k⟩
              rw [ih _ (fun k => hn ⟨ha, .inr k⟩), Tr.get_set_other _ _ hja]
        rw [key r _ hp, Tr.get_set_same]
      · exact absurd h2 hp

theorem get_killPre_not : ∀ (st : List Nat) (t : Tr (AObj G)) (id j : Nat), ¬ inPre st id j → (killPre t st id).get j = t.get j
  | [], _, _, _, _ => rfl
  | a :: r, t, id, j, hn => by
    unfold killPre
    by_cases ha : a = id
    · rw [if_pos ha]
    · rw [if_neg ha]
      have hja : j ≠ a := fun k => hn ⟨ha, .inl k⟩
      rw [get_killPre_not r _ id j (fun k => hn ⟨ha, .inr k⟩), Tr.get_set_other _ _ hja]

theorem mem_dropTo : ∀ (st : List Nat) (id j : Nat), j ∈ st → ¬ inPre st id j → j ∈ dropTo st id
  | i :: r, id, j, h, hn => by
    unfold dropTo
    by_cases hi : i = id
    · rw [if_pos hi]; exact h
    · rw [if_neg hi]
      rcases List.mem_cons.1 h with rfl | h
      · exact absurd ⟨hi, .inl rfl⟩ hn
      · exact mem_dropTo r id j h (fun k => hn ⟨hi, .inr k⟩)

theorem dropTo_sub : ∀ (st : List Nat) (id j : Nat), j ∈ dropTo st id → j ∈ st
  | [], _, _, h => by cases h
  | i :: r, id, j, h => by
    unfold dropTo at h
    by_cases hi : i = id
    · rw [if_pos hi] at h; exact h
    · rw [if_neg hi] at h; exact List.mem_cons_of_mem _ (dropTo_sub r id j h)

theorem dropTo_head : ∀ (st : List Nat) (id : Nat), id ∈ st → ∃ post, dropTo st id = id :: post
  | i :: r, id, h => by
    unfold dropTo
    by_cases hi : i = id
    · rw [if_pos hi]; exact ⟨r, by rw [hi]⟩
    · rw [if_neg hi]
      exact dropTo_head r id ((List.mem_cons.1 h).resolve_left (fun k => hi k.symm))

theorem dropTo_pairwise {R : Nat → Nat → Prop} : ∀ (st : List Nat) (id : Nat), st.Pairwise R → (dropTo st id).Pairwise R
  | [], _, h => h
  | i :: r, id, h => by
    unfold dropTo
    by_cases hi : i = id
    · rw [if_pos hi]; exact h
    · rw [if_neg hi]; exact dropTo_pairwise r id (List.pairwise_cons.1 h).2

theorem inPre_mem : ∀ (st : List Nat) (id j : Nat), inPre st id j → j ∈ st ∧ True
  | i :: r, id, j, h => by
    obtain ⟨_, h2⟩ := h
    rcases h2 with rfl | h2
    · simp
    · exact ⟨List.mem_cons_of_mem _ (inPre_mem r id j h2).1, trivial⟩

theorem inPre_ne_self : ∀ (st : List Nat) (id : Nat), ¬ inPre st id id
  | [], _, h => h
  | i :: r, id, h => by
    obtain ⟨h1, h2⟩ := h
    rcases h2 with k | h2
    · exact h1 k.symm
    · exact inPre_ne_self r id h2

/-- A row that is appended to, where nobody knows whether it grows in place. -/
def AH.push (h : (AH G)) (id : Nat) (news : List (AV G)) : Option (AH G) :=
  match h.objs.get id with
  | some (.cells vs (some g)) =>
    match h.grps.get g with
    | some st => some { h with objs := (killPre h.objs st id).set h.next (.cells (vs ++ news) (some g)), grps := h.grps.set g (h.next :: dropTo st id), next := h.next + 1 }
    | none => none
  | _ => none

theorem HR.push {e : (Env G)} {h h' : (AH G)} {w w' : World} (H : HR e h w) {id : Nat} {vs news : List (AV G)} {g bn rm : Nat} {st : List Nat} (hid : h.objs.get id = some (.cells vs (some g))) (hst : h.grps.get g = some st)
    (hp : h.push id news = some h')
    (hA : ∀ j o, h.objs.get j = some o → ¬ inPre st id j → OR e w' j o)
    (hB : OR (e.bind h.next bn rm) w' h.next (.cells (vs ++ news) (some g)))
    (hC : ∀ j o y, h.objs.get j = some o → o.owned = true → e.φ j = some (bn, y) → ∃ vj, o = .cells vj (some g))
    (hs : w.heap.size ≤ w'.heap.size) : HR (e.bind h.next bn rm) h' w' := by
  have hle : e.le (e.bind h.next bn rm) := Env.le_bind (H.freshφ _ (Nat.le_refl _))
  unfold AH.push at hp
  rw [hid] at hp
  simp only [hst] at hp
  have hp := Option.some.inj hp
  have hget : ∀ j, h'.objs.get j = if j = h.next then some (.cells (vs ++ news) (some g)) else (killPre h.objs st id).get j := by
    intro j; rw [← hp]; exact Tr.get_set _ _ _ _
  have hgrp : ∀ g', h'.grps.get g' = if g' = g then some (h.next :: dropTo st id) else h.grps.get g' := by
    intro j; rw [← hp]; exact Tr.get_set _ _ _ _
  have hnext : h'.next = h.next + 1 ∧ h'.ngrp = h.ngrp := by rw [← hp]; exact ⟨rfl, rfl⟩
  have hmem : id ∈ st := by obtain ⟨st', h1, h2⟩ := H.grp _ _ _ hid; rw [hst] at h1; cases h1; exact h2
  have hsmall : ∀ {j}, j ∈ st → j < h.next := fun {j} hj => H.gsmall g st j hst hj
  have alive : ∀ {j o}, h'.objs.get j = some o → j ≠ h.next → o ≠ .dead → h.objs.get j = some o ∧ ¬ inPre st id j := by
    intro j o ho hj hd
    rw [hget, if_neg hj] at ho
    by_cases hi : inPre st id j
    · rw [get_killPre_of _ _ _ _ hi] at ho; cases ho; exact absurd rfl hd
    · rw [get_killPre_not _ _ _ _ hi] at ho; exact ⟨ho, hi⟩
  have ownedNe : ∀ {o : (AObj G)}, o.owned = true → o ≠ .dead := fun h k => by subst k; cases h
  refine ⟨?_, ?_, ?_, ?_, ?_, ?_, ?_, ?_, ?_⟩
  · intro j o ho
    by_cases hj : j = h.next
    · rw [hget, if_pos hj] at ho; cases ho; subst hj; exact hB
    · by_cases hd : o = .dead
      · subst hd; trivial
      · obtain ⟨h1, h2⟩ := alive ho hj hd
        exact (hA j o h1 h2).mono hle
  · intro i j oi oj b x y hij hi hj hoi hoj hφi hφj
    by_cases h1 : i = h.next
    · have h2 : j ≠ h.next := fun k => hij (h1.trans k.symm)
      rw [hget, if_pos h1] at hi; cases hi
      obtain ⟨hj1, _⟩ := alive hj h2 (ownedNe hoj)
      rw [h1, Env.bind_same] at hφi; cases hφi
      rw [Env.bind_other _ _ _ h2] at hφj
      obtain ⟨vj, rfl⟩ := hC j oj y hj1 hoj hφj
      exact ⟨_, vj, g, rfl, rfl⟩
    · obtain ⟨hi1, _⟩ := alive hi h1 (ownedNe hoi)
      rw [Env.bind_other _ _ _ h1] at hφi
      by_cases h2 : j = h.next
      · rw [hget, if_pos h2] at hj; cases hj
        rw [h2, Env.bind_same] at hφj; cases hφj
        obtain ⟨vi, rfl⟩ := hC i oi x hi1 hoi hφi
        exact ⟨vi, _, g, rfl, rfl⟩
      · obtain ⟨hj1, _⟩ := alive hj h2 (ownedNe hoj)
        rw [Env.bind_other _ _ _ h2] at hφj
        exact H.sep i j oi oj b x y hij hi1 hj1 hoi hoj hφi hφj
  · intro j us g' ho
    rw [hgrp]
    by_cases hj : j = h.next
    · rw [hget, if_pos hj] at ho; cases ho
      exact ⟨_, by rw [if_pos rfl], by simp [hj]⟩
    · obtain ⟨h1, h2⟩ := alive ho hj (by simp)
      obtain ⟨st', h3, h4⟩ := H.grp j us g' h1
      by_cases hg : g' = g
      · subst hg
        rw [hst] at h3; cases h3
        exact ⟨_, by rw [if_pos rfl], List.mem_cons_of_mem _ (mem_dropTo st id j h4 h2)⟩
      · exact ⟨st', by rw [if_neg hg]; exact h3, h4⟩
  · intro g' st' hst'
    rw [hgrp] at hst'
    by_cases hg : g' = g
    · rw [if_pos hg] at hst'; cases hst'
      subst hg
      have hpw := H.ord g' st hst
      obtain ⟨post, hpost⟩ := dropTo_head st id hmem
      have hpd := dropTo_pairwise st id hpw
      refine List.pairwise_cons.2 ⟨fun j hj vi vj h1 h2 => ?_, ?_⟩
      · rw [hget, if_pos rfl] at h1; cases h1
        have hjn : j ≠ h.next := fun k => by have := hsmall (dropTo_sub _ _ _ hj); omega
        obtain ⟨h3, _⟩ := alive h2 hjn (by simp)
        rw [hpost] at hj hpd
        rcases List.mem_cons.1 hj with rfl | hj
        · rw [hid] at h3; cases h3; simp
        · have := (List.pairwise_cons.1 hpd).1 j hj vs vj hid h3
          simp; omega
      · refine hpd.imp_of_mem (fun {i j} hi hj hp vi vj h1 h2 => ?_)
        have hin : i ≠ h.next := fun k => by have := hsmall (dropTo_sub _ _ _ hi); omega
        have hjn : j ≠ h.next := fun k => by have := hsmall (dropTo_sub _ _ _ hj); omega
        exact hp vi vj (alive h1 hin (by simp)).1 (alive h2 hjn (by simp)).1
    · rw [if_neg hg] at hst'
      refine (H.ord g' st' hst').imp_of_mem (fun {i j} hi hj hp vi vj h1 h2 => ?_)
      have hin : i ≠ h.next := fun k => by have := H.gsmall g' st' i hst' hi; omega
      have hjn : j ≠ h.next := fun k => by have := H.gsmall g' st' j hst' hj; omega
      exact hp vi vj (alive h1 hin (by simp)).1 (alive h2 hjn (by simp)).1
  · intro j hj
    rw [hnext.1] at hj
    rw [hget, if_neg (by omega), get_killPre_not _ _ _ _ (fun k => by have := hsmall (inPre_mem st id j k).1; omega)]
    exact H.fresh j (by omega)
  · intro j hj
    rw [hnext.1] at hj
    rw [Env.bind_other _ _ _ (by omega)]
    exact H.freshφ j (by omega)
  · intro g' hg'
    rw [hnext.2] at hg'
    have : g' ≠ g := fun k => by rw [k] at hg'; rw [H.freshg g hg'] at hst; cases hst
    rw [hgrp, if_neg this]
    exact H.freshg g' hg'
  · intro g' st' j hst' hj
    rw [hnext.1]
    rw [hgrp] at hst'
    by_cases hg : g' = g
    · rw [if_pos hg] at hst'; cases hst'
      rcases List.mem_cons.1 hj with rfl | hj
      · omega
      · have := hsmall (dropTo_sub _ _ _ hj); omega
    · rw [if_neg hg] at hst'
      have := H.gsmall g' st' j hst' hj; omega
  · show e.base ≤ _
    exact Nat.le_trans H.base hs

/-- It grew in place. -/
theorem St.pushIn {e : (Env G)} {h h' : (AH G)} {w : World} (H : HR e h w) {id b x : Nat} {vs news : List (AV G)} {g : Nat} {vals : List Value} (hid : h.objs.get id = some (.cells vs (some g)))
    (hp : h.push id news = some h') (hv : VRs e news vals) (hb : e.φ id = some (b, x)) (hroom : ∀ j, j < vals.length → (w.cell? ⟨b, vs.length + j, none⟩).isSome = true) :
    St e h w (e.bind h.next b (e.room id)) h' (w.setCells b vs.length vals) := by
  obtain ⟨st, hst, hmem⟩ := H.grp _ _ _ hid
  obtain ⟨b', hφ, hbase, c, t, hc, hrm, hcv⟩ := H.obj _ _ hid
  rw [hb] at hφ
  obtain ⟨rfl, rfl⟩ : b = b' ∧ x = 0 := by simpa using hφ
  have hle : e.le (e.bind h.next b (e.room id)) := Env.le_bind (H.freshφ _ (Nat.le_refl _))
  obtain ⟨c', hc1, hc2, hc3, hc4⟩ := setCells_row b vals vs.length w c t (0, 0) hc
  have hkeep : ∀ r, r ≠ b → (w.setCells b vs.length vals).heap[r]? = w.heap[r]? := fun r hr => setCells_other b vals _ w r hr
  have hvl := hv.length
  have hroom' : ∀ j, j < vals.length → vs.length + j < c.size := by
    intro j hj
    have h1 := hroom j hj
    rw [cell_of_row w b _ c t (0, 0) hc] at h1
    obtain ⟨v, hv⟩ := Option.isSome_iff_exists.1 h1
    exact (Array.getElem?_eq_some_iff.1 hv).1
  have hcz : ∀ i, i < vs.length → i < c.size := by
    intro i hi
    obtain ⟨v, h1, _⟩ := hcv i vs[i] (List.getElem?_eq_getElem hi)
    exact (Array.getElem?_eq_some_iff.1 h1).1
  have hnextid : ∀ {j o}, h.objs.get j = some o → j < h.next := fun {j o} hj => by
    apply Nat.lt_of_not_le; intro k; rw [H.fresh j k] at hj; cases hj
  have hHR : HR (e.bind h.next b (e.room id)) h' (w.setCells b vs.length vals) := by
    refine H.push hid hst hp ?_ ?_ ?_ (by rw [setCells_size]; exact Nat.le_refl _)
    · intro j o ho hpre
      have hO := H.obj j o ho
      by_cases hj : ∃ y, o.owned = true ∧ e.φ j = some (b, y)
      · obtain ⟨y, hown, hφj⟩ := hj
        have hcells : ∃ vj, o = .cells vj (some g) ∧ vj.length ≤ vs.length := by
          by_cases hji : j = id
          · subst hji; rw [hid] at ho; cases ho; exact ⟨vs, rfl, Nat.le_refl _⟩
          · obtain ⟨vj, vi, g', h1, h2⟩ := H.sep j id o _ b y 0 hji ho hid hown rfl hφj hb
            cases h2
            refine ⟨vj, h1, ?_⟩
            obtain ⟨st', h3, h4⟩ := H.grp j vj g (by rw [ho, h1])
            rw [hst] at h3; cases h3
            obtain ⟨post, hpost⟩ := dropTo_head st id hmem
            have hjd := mem_dropTo st id j h4 hpre
            have hpd := dropTo_pairwise st id (H.ord g st hst)
            rw [hpost] at hjd hpd
            rcases List.mem_cons.1 hjd with k | hjd
            · exact absurd k hji
            · exact (List.pairwise_cons.1 hpd).1 j hjd vs vj hid (by rw [ho, h1])
        obtain ⟨vj, rfl, hlen⟩ := hcells
        obtain ⟨b2, h1, h2, c2, t2, h3, h5, h4⟩ := hO
        rw [hφj] at h1; cases h1
        rw [hc] at h3; cases h3
        refine ⟨b, hφj, h2, c', _, hc1, by rw [hc2]; exact h5, fun i a hi => ?_⟩
        have hil : i < vj.length := (List.getElem?_eq_some_iff.1 hi).1
        rw [hc3 i (.inl (by omega))]
        exact h4 i a hi
      · cases o with
        | dead => trivial
        | cells us gg =>
          cases gg with
          | none =>
            refine hO.same fun b' y hφ => hkeep _ (fun k => ?_)
            obtain ⟨b2, o2, h1, h2, _⟩ := hO
            rw [hφ] at h1; cases h1; omega
          | some g' => exact hO.same fun b' y hφ => hkeep _ (fun k => hj ⟨y, rfl, by rw [hφ, k]⟩)
        | map es => exact hO.same fun b' y hφ => hkeep _ (fun k => hj ⟨y, rfl, by rw [hφ, k]⟩)
        | loop l => exact hO.same fun b' y hφ => hkeep _ (fun k => hj ⟨y, rfl, by rw [hφ, k]⟩)
        | defd ds => exact hO.same fun b' y hφ => hkeep _ (fun k => hj ⟨y, rfl, by rw [hφ, k]⟩)
    · refine ⟨b, Env.bind_same _ _ _ _, hbase, c', t, hc1, by rw [hc2, Env.bind_room]; exact hrm, fun i a hi => ?_⟩
      by_cases h1 : i < vs.length
      · rw [List.getElem?_append_left h1] at hi
        obtain ⟨v, hv1, hv2⟩ := hcv i a hi
        exact ⟨v, by rw [hc3 i (.inl h1)]; exact hv1, hv2.mono hle⟩
      · obtain ⟨k, rfl⟩ : ∃ k, i = vs.length + k := ⟨i - vs.length, by omega⟩
        rw [List.getElem?_append_right (by omega), Nat.add_sub_cancel_left] at hi
        obtain ⟨v, hv1, hv2⟩ := hv.get hi
        have hk : k < vals.length := (List.getElem?_eq_some_iff.1 hv1).1
        exact ⟨v, by rw [hc4 k hk (hroom' k hk)]; exact hv1, hv2.mono hle⟩
    · intro j o y ho hown hφj
      by_cases hji : j = id
      · subst hji; rw [hid] at ho; cases ho; exact ⟨vs, rfl⟩
      · obtain ⟨vj, vi, g', h1, h2⟩ := H.sep j id o _ b y 0 hji ho hid hown rfl hφj hb
        cases h2; exact ⟨vj, h1⟩
  refine ⟨hle, hHR, (setCells_os b vals _ w).1, (setCells_os b vals _ w).2.1, (setCells_os b vals _ w).2.2, by rw [setCells_size]; exact Nat.le_refl _, fun r _ hn => hkeep r (fun k => hn ?_), ?_, ?_, fun id hid k => by rw [Env.bind_other _ _ _ (Nat.ne_of_lt hid)]; exact k⟩
  · subst k; exact ⟨id, _, _, hid, rfl, hb⟩
  · intro r _ ⟨j, o, y, h1, h2, h3⟩
    unfold AH.push at hp
    rw [hid] at hp
    simp only [hst] at hp
    have hp := Option.some.inj hp
    rw [← hp] at h1
    have h1' : ((killPre h.objs st id).set h.next (.cells (vs ++ news) (some g))).get j = some o := h1
    rw [Tr.get_set] at h1'
    by_cases hj : j = h.next
    · rw [hj, Env.bind_same] at h3; cases h3; exact ⟨id, _, _, hid, rfl, hb⟩
    · rw [if_neg hj] at h1'
      rw [Env.bind_other _ _ _ hj] at h3
      by_cases hi : inPre st id j
      · rw [get_killPre_of _ _ _ _ hi] at h1'; cases h1'; cases h2
      · rw [get_killPre_not _ _ _ _ hi] at h1'; exact ⟨j, o, y, h1', h2, h3⟩
  · unfold AH.push at hp
    rw [hid] at hp
    simp only [hst] at hp
    have hp := Option.some.inj hp
    rw [← hp]; exact Nat.le_succ _

/-- It moved. -/
theorem St.pushNew {e : (Env G)} {h h' : (AH G)} {w : World} (H : HR e h w) {id : Nat} {vs news : List (AV G)} {g : Nat} (c : Array Value) (t : TypeId) (hid : h.objs.get id = some (.cells vs (some g)))
    (hp : h.push id news = some h') (hv : ∀ (i : Nat) (a : (AV G)), (vs ++ news)[i]? = some a → ∃ v, c[i]? = some v ∧ VR e a v) :
    St e h w (e.bind h.next w.heap.size c.size) h' (w.alloc (.cells c t)) := by
  obtain ⟨st, hst, hmem⟩ := H.grp _ _ _ hid
  have hle : e.le (e.bind h.next w.heap.size c.size) := Env.le_bind (H.freshφ _ (Nat.le_refl _))
  have hp0 := hp
  unfold AH.push at hp
  rw [hid] at hp
  simp only [hst] at hp
  have hp := Option.some.inj hp
  have hHR : HR (e.bind h.next w.heap.size c.size) h' (w.alloc (.cells c t)) := by
    refine H.push hid hst hp0 ?_ ?_ ?_ (by simp)
    · intro j o ho _
      have hO := H.obj j o ho
      have key : ∀ {b : Nat} {X : Obj}, w.heap[b]? = some X → (w.alloc (.cells c t)).heap[b]? = some X := fun {b} {X} hx => by
        rw [alloc_old w _ (Array.getElem?_eq_some_iff.1 hx).1]; exact hx
      cases o with
      | cells vs g =>
        cases g with
        | some g => obtain ⟨b, h1, h2, c, t, h3, h4⟩ := hO; exact ⟨b, h1, h2, c, t, key h3, h4⟩
        | none =>
          obtain ⟨b, x, h1, h2, h4⟩ := hO
          have := H.base
          exact ⟨b, x, h1, h2, fun i a hi => let ⟨v, hv, hr⟩ := h4 i a hi; ⟨v, (World.cell?_of_block (a := ⟨b, x + i, none⟩) (alloc_old w _ (by show b < _; omega))).trans hv, hr⟩⟩
      | map es => obtain ⟨b, x, h1, h2, c, t, h3, h4⟩ := hO; exact ⟨b, x, h1, h2, c, t, key h3, h4⟩
      | loop l => obtain ⟨b, x, h1, h2, L, h3, h4⟩ := hO; exact ⟨b, x, h1, h2, L, key h3, h4⟩
      | defd ds => obtain ⟨b, x, h1, h2, h3⟩ := hO; exact ⟨b, x, h1, h2, key h3⟩
      | dead => trivial
    · exact ⟨w.heap.size, Env.bind_same _ _ _ _, H.base, c, t, heap_alloc_new w _, by rw [Env.bind_room]; exact Nat.le_refl _, fun i a hi => let ⟨v, h1, h2⟩ := hv i a hi; ⟨v, h1, h2.mono hle⟩⟩
    · intro j o y ho hown hφ
      exact absurd ((H.obj _ _ ho).block_lt hown hφ) (Nat.lt_irrefl _)
  refine ⟨hle, hHR, rfl, rfl, rfl, by simp, fun r hr _ => alloc_old w _ hr, ?_, by rw [← hp]; exact Nat.le_succ _, fun id hid k => by rw [Env.bind_other _ _ _ (Nat.ne_of_lt hid)]; exact k⟩
  intro r hr ⟨j, o, y, h1, h2, h3⟩
  rw [← hp] at h1
  have h1' : ((killPre h.objs st id).set h.next (.cells (vs ++ news) (some g))).get j = some o := h1
  rw [Tr.get_set] at h1'
  by_cases hj : j = h.next
  · rw [hj, Env.bind_same] at h3; cases h3; omega
  · rw [if_neg hj] at h1'
    rw [Env.bind_other _ _ _ hj] at h3
    by_cases hi : inPre st id j
    · rw [get_killPre_of _ _ _ _ hi] at h1'; cases h1'; cases h2
    · rw [get_killPre_not _ _ _ _ hi] at h1'; exact ⟨j, o, y, h1', h2, h3⟩
end Go.Ev
end

noncomputable section
namespace Go.Ev
variable {G : Ctx}
open Go.RowKit

def AH.putO (h : (AH G)) (id : Nat) (o : (AObj G)) : (AH G) := { h with objs := h.objs.set id o }

def World.putB (w : World) (r : Nat) (O : Obj) : World := { w with heap := w.heap.setIfInBounds r O }

theorem putB_same {w : World} {r : Nat} {O X : Obj} (h : w.heap[r]? = some X) : (World.putB w r O).heap[r]? = some O := by
  have := (Array.getElem?_eq_some_iff.1 h).1
  simp [World.putB, this]
theorem putB_other {w : World} {r k : Nat} {O : Obj} (h : k ≠ r) : (World.putB w r O).heap[k]? = w.heap[k]? := by
  simp only [World.putB]
  rw [Array.getElem?_setIfInBounds_ne (fun e => h e.symm)]
theorem putB_size {w : World} {r : Nat} {O : Obj} : (World.putB w r O).heap.size = w.heap.size := by simp [World.putB]

/-- An object that is no row of cells is turned. -/
theorem St.putO {e : (Env G)} {h : (AH G)} {w : World} (H : HR e h w) {id b x : Nat} {o o' : (AObj G)} {O X : Obj} (hid : h.objs.get id = some o) (ho : o.owned = true) (hnc : ∀ vs g, o ≠ .cells vs g) (ho' : ∀ vs g, o' ≠ .cells vs g)
    (hb : e.φ id = some (b, x)) (hX : w.heap[b]? = some X) (hn : OR e (World.putB w b O) id o') : St e h w e (h.putO id o') (World.putB w b O) := by
  have hget : ∀ j, (h.putO id o').objs.get j = if j = id then some o' else h.objs.get j := fun j => Tr.get_set _ _ _ _
  have hidn : id < h.next := by apply Nat.lt_of_not_le; intro k; rw [H.fresh id k] at hid; cases hid
  have hother : ∀ j oj b' y, j ≠ id → h.objs.get j = some oj → oj.owned = true → e.φ j = some (b', y) → b' ≠ b := by
    intro j oj b' y hj hoj hown hφ hbb
    subst hbb
    obtain ⟨vi, vj, g, _, h2⟩ := H.sep j id oj o b' y x hj hoj hid hown ho hφ hb
    exact hnc _ _ h2
  have hble : e.base ≤ b := (H.obj _ _ hid).base_le ho hb
  refine ⟨.refl e, ⟨?_, ?_, ?_, ?_, ?_, H.freshφ, H.freshg, H.gsmall, by rw [putB_size]; exact H.base⟩, rfl, rfl, rfl, by rw [putB_size]; exact Nat.le_refl _, fun r _ hn' => putB_other (fun k => hn' ?_), ?_, Nat.le_refl _, fun _ _ k => k⟩
  · intro j oj hj
    rw [hget] at hj
    by_cases hji : j = id
    · rw [if_pos hji] at hj; cases hj; subst hji; exact hn
    · rw [if_neg hji] at hj
      have hO := H.obj j oj hj
      cases oj with
      | dead => trivial
      | cells us gg =>
        cases gg with
        | none =>
          refine hO.same fun b' y hφ => putB_other (fun k => ?_)
          obtain ⟨b2, o2, h1, h2, _⟩ := hO
          rw [hφ] at h1; cases h1; omega
        | some g' => exact hO.same fun b' y hφ => putB_other (hother j _ b' y hji hj rfl hφ)
      | map es => exact hO.same fun b' y hφ => putB_other (hother j _ b' y hji hj rfl hφ)
      | loop l => exact hO.same fun b' y hφ => putB_other (hother j _ b' y hji hj rfl hφ)
      | defd ds => exact hO.same fun b' y hφ => putB_other (hother j _ b' y hji hj rfl hφ)
  · intro i j oi oj b' y z hij hi hj hoi hoj hφi hφj
    rw [hget] at hi hj
    by_cases h1 : i = id
    · have h2 : j ≠ id := fun k => hij (h1.trans k.symm)
      rw [if_neg h2] at hj
      subst h1; rw [hb] at hφi; cases hφi
      exact absurd rfl (hother j oj _ z h2 hj hoj hφj)
    · rw [if_neg h1] at hi
      by_cases h2 : j = id
      · subst h2; rw [hb] at hφj; cases hφj
        exact absurd rfl (hother i oi _ y h1 hi hoi hφi)
      · rw [if_neg h2] at hj
        exact H.sep i j oi oj b' y z hij hi hj hoi hoj hφi hφj
  · intro j us g' hj
    rw [hget] at hj
    by_cases hji : j = id
    · rw [if_pos hji] at hj; cases hj; exact absurd rfl (ho' _ _)
    · rw [if_neg hji] at hj; exact H.grp j us g' hj
  · intro g st hst
    refine (H.ord g st hst).imp (fun {i j} hp vi vj h1 h2 => ?_)
    have hne : ∀ {k vk}, (h.putO id o').objs.get k = some (.cells vk (some g)) → h.objs.get k = some (.cells vk (some g)) := by
      intro k vk hk
      rw [hget] at hk
      by_cases h1 : k = id
      · rw [if_pos h1] at hk; cases hk; exact absurd rfl (ho' _ _)
      · rwa [if_neg h1] at hk
    exact hp vi vj (hne h1) (hne h2)
  · intro j hj
    have hj' : h.next ≤ j := hj
    rw [hget, if_neg (by omega)]; exact H.fresh j hj
  · subst k; exact ⟨id, o, x, hid, ho, hb⟩
  · intro r _ ⟨j, oj, y, h1, h2, h3⟩
    rw [hget] at h1
    by_cases hji : j = id
    · subst hji; exact ⟨j, o, y, hid, ho, h3⟩
    · rw [if_neg hji] at h1; exact ⟨j, oj, y, h1, h2, h3⟩
end Go.Ev
end

