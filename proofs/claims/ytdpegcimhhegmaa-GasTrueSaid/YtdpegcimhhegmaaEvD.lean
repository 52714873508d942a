import Derived.Test.YtdpegcimhhegmaaEvC
set_option linter.unusedVariables false
set_option linter.unusedSimpArgs false
set_option linter.unusedSectionVars false
noncomputable section
namespace Go.Ev
variable {G : Ctx}

/-- The operations before one, as a mask: from its edges, and from the masks of the operations that they name. -/
def maskL (acc : List Nat) : List Edge → Nat
  | [] => 0
  | e :: r => if Region.binds .any e then (((1 <<< e.on) ||| acc.getD e.on 0) ||| maskL acc r) else maskL acc r

def befL : List Oper → List Nat → List Nat
  | [], acc => acc
  | o :: r, acc => befL r (acc ++ [maskL acc o.after.toList])

/-- What an operation sees: the temporaries as the region found them, and what its edges name. -/
def seeA (ops : Array Oper) (vals : List (AV G)) : List Edge → (TT G) → (TT G)
  | [], tm => tm
  | e :: r, tm => if Region.binds .any e then match (ops[e.on]?).bind (·.dst) with
      | some d => seeA ops vals r (setT tm d (vals.getD e.on undefA))
      | none => seeA ops vals r tm
    else seeA ops vals r tm

def AH.adopt (h : (AH G)) (id : Nat) (vs : List (AV G)) : (AH G) :=
  { objs := h.objs.set id (.cells vs (some h.ngrp)), grps := h.grps.set h.ngrp [id], next := h.next, ngrp := h.ngrp + 1 }

structure ANew (G : Ctx) where
  i : Nat
  id : Nat
  vs : List (AV G)

def adoptAll (h : (AH G)) (need ins : Nat) : List (ANew G) → Option (AH G)
  | [] => some h
  | x :: r => if need.testBit x.i && !ins.testBit x.i then (match h.objs.get x.id with
      | none => adoptAll (h.adopt x.id x.vs) need ins r
      | some _ => none)
    else adoptAll h need ins r

inductive DK where
  | calm
  | read
  | new
  | step

def kindD : Op → DK
  | .load _ _ | .lookup _ _ _ _ => .read
  | .alloc _ | .box _ _ | .buildSlice _ _ _ => .new
  | .store _ _ _ | .makeSlice _ _ _ | .makeMap _ _ | .mapUpdate _ _ _ _ | .insert _ _ _ _ => .step
  | .call c => match c.callee with
    | .builtin .append | .builtin .copy => .step
    | .builtin _ => .calm
    | _ => .step
  | .select _ _ => .step
  | _ => .calm

/-- The cells of a new row, and how it is named. -/
def newA (P : Program) (tm : (TT G)) : Op → Option (Option Nat × List (AV G))
  | .alloc e => (zeroOf P e : Option (AV G)).map fun z => (none, z.parts)
  | .box _ x => (rho tm x).map fun a => (none, a.parts)
  | .buildSlice t len parts => match P.underlying t, rhoParts tm parts.toList with
    | some (.slice e), some ps => match szOf P e, (zeroOf P e : Option (AV G)) with
      | some n, some z =>
        if len * n ≤ 16777216 ∧ 0 < n ∧ z.parts.length = n then (fillA (fun i => some (i * n, n)) (reptA z.parts len) ps).map fun cs => (some len, cs)
        else none
      | _, _ => none
    | _, _ => none
  | _ => none

def newV (k : Option Nat) (id : Nat) : AV G :=
  match k with
  | none => .ptr id 0
  | some l => .slice id 0 l l false

/-- One step, a call with what it does. -/
def runOp (P : Program) (L : Look) (self : (Job G) → Option (Res G)) (tm : (TT G)) (h : (AH G)) (o : Op) : Option ((AV G) × (AH G)) :=
  match opA P L tm h o with
  | some (.val v h) => some (v, h)
  | some (.call f args) => match self (.call f args h) with
    | some (.ret v h) => some (v, h)
    | _ => none
  | some (.round id args) => match self (.round id args h) with
    | some (.ret v h) => some (v, h)
    | _ => none
  | _ => none

/-- A draw's state: the values so far, the heaps after the steps with what had been taken up, the steps, the new rows, the readers. -/
structure DS (G : Ctx) where
  vals : List (AV G)
  hs : List ((AH G) × Nat)
  ss : List Nat
  smask : Nat
  news : List (ANew G)
  reads : List (Nat × Op × (TT G))

def lastD (l : List ((AH G) × Nat)) : Option ((AH G) × Nat) := l.getLast?

def oneD (P : Program) (L : Look) (self : (Job G) → Option (Res G)) (ops : Array Oper) (tm0 : (TT G)) (next : Nat) (i : Nat) (o : Oper) (bef : Nat) (s : (DS G)) : Option (DS G) :=
  let tm := seeA ops s.vals o.after.toList tm0
  match aboutA L tm o.op with
  | false => none
  | true =>
  match wantA ops tm o with
  | some false => some { s with vals := s.vals ++ [undefA] }
  | some true =>
    match kindD o.op with
    | .calm => (pureOp P tm o.op).map fun v => { s with vals := s.vals ++ [v] }
    | .read => match lastD s.hs with
      | some (h, ins) => match adoptAll h bef ins s.news with
        | some h => (readOp P tm h o.op).map fun v => { s with vals := s.vals ++ [v], reads := s.reads ++ [(i, o.op, tm)] }
        | none => none
      | none => none
    | .new => (newA P tm o.op).map fun r => { s with vals := s.vals ++ [newV r.1 (next + s.news.length)], news := s.news ++ [⟨i, next + s.news.length, r.2⟩] }
    | .step => if s.smask &&& bef = s.smask then match lastD s.hs with
      | some (h, ins) => match adoptAll h bef ins s.news with
        | some h => match runOp P L self tm h o.op with
          | some (v, h') => some { s with vals := s.vals ++ [v], hs := s.hs ++ [(h', ins ||| bef)], ss := s.ss ++ [i], smask := s.smask ||| (1 <<< i) }
          | none => none
        | none => none
      | none => none
      else none
  | none => none

def allD (P : Program) (L : Look) (self : (Job G) → Option (Res G)) (ops : Array Oper) (tm0 : (TT G)) (next : Nat) : List Oper → List Nat → Nat → (DS G) → Option (DS G)
  | o :: r, b :: bs, i, s => match oneD P L self ops tm0 next i o b s with
    | some s => allD P L self ops tm0 next r bs (i + 1) s
    | none => none
  | [], _, _, s => some s
  | _, _, _, _ => none

mutual
def sameA : (AV G) → (AV G) → Bool
  | .bool a, .bool b => a == b
  | .int k a, .int l b => k == l && a == b
  | .str a, .str b => decide (a = b)
  | .nilp, .nilp | .nils, .nils | .nilm, .nilm | .nilf, .nilf | .nili, .nili => true
  | .ptr i o, .ptr j p => i == j && o == p
  | .slice i o l c g, .slice j p m d e => i == j && o == p && l == m && c == d && g == e
  | .map i, .map j => i == j
  | .agg a, .agg b => samesA a b
  | .tuple a, .tuple b => samesA a b
  | .func (.func f) a c, .func (.func g) b d => f == g && samesA a b && samesA c d
  | .opq k, .opq l => k == l
  | .sx x a b, .sx y c d => SX.same x y && eqI a c && eqI b d
  | _, _ => false
def samesA : List (AV G) → List (AV G) → Bool
  | [], [] => true
  | a :: r, b :: s => sameA a b && samesA r s
  | _, _ => false
end

/-- May the operation i be carried out after p steps? -/
def maybeAt (i bi : Nat) (bef : List Nat) (p : Nat) : Nat → List Nat → Bool
  | _, [] => true
  | q, s :: r => (!bi.testBit s || decide (q < p)) && (!(bef.getD s 0).testBit i || decide (p ≤ q)) && maybeAt i bi bef p (q + 1) r

def readsAt (P : Program) (i bi : Nat) (o : Op) (tm : (TT G)) (v : (AV G)) (bef ss : List Nat) (news : List (ANew G)) : Nat → List ((AH G) × Nat) → Bool
  | _, [] => true
  | p, (h, ins) :: r => (if maybeAt i bi bef p 0 ss then match adoptAll h bi ins news with
      | some h => match readOp P tm h o with
        | some u => sameA u v
        | none => false
      | none => false
    else true) && readsAt P i bi o tm v bef ss news (p + 1) r

def readsOk (P : Program) (bef : List Nat) (s : (DS G)) : List (Nat × Op × (TT G)) → Bool
  | [] => true
  | (i, o, tm) :: r => readsAt P i (bef.getD i 0) o tm (s.vals.getD i undefA) bef s.ss s.news 0 s.hs && readsOk P bef s r

def finalT (tm : (TT G)) : List Oper → List (AV G) → (TT G)
  | o :: r, v :: vs => finalT (match o.dst with | some d => setT tm d v | none => tm) r vs
  | _, _ => tm

/-- Temporaries: what an operation looks at is written by an operation that an edge names, by one that comes after it, by itself, or by none; no two write one. -/
def seesOk (ops : Array Oper) (bef : List Nat) (i : Nat) (o : Oper) (t : Nat) : Nat → List Oper → Bool
  | _, [] => true
  | j, p :: r => (p.dst != some t || j == i || (bef.getD j 0).testBit i || o.after.any (fun e => Region.binds .any e && e.on == j)) && seesOk ops bef i o t (j + 1) r

def dstsOk : List Oper → Bool
  | [] => true
  | o :: r => (match o.dst with | some d => r.all (fun p => p.dst != some d) | none => true) && dstsOk r

def shapeOk (ops : Array Oper) (bef : List Nat) : Nat → List Oper → Bool
  | _, [] => true
  | i, o :: r => o.after.all (fun e => !Region.binds .any e || decide (e.on < i)) && (o.looksAt ops).all (fun t => seesOk ops bef i o t 0 ops.toList) && shapeOk ops bef (i + 1) r

def countNew : List Oper → Nat
  | [] => 0
  | o :: r => (match kindD o.op with | .new => 1 | _ => 0) + countNew r

def full (n : Nat) : Nat := (1 <<< n) - 1

def drawA (P : Program) (L : Look) (self : (Job G) → Option (Res G)) (_rd : Option Nat) (ops : Array Oper) (a : (AAct G)) (h : (AH G)) : Option (Res G) :=
  let bef := befL ops.toList []
  if P.follows .mixedOrders && shapeOk ops bef 0 ops.toList && dstsOk ops.toList then
    let n := countNew ops.toList
    match allD P L self ops a.tmps h.next ops.toList bef 0 ⟨[], [({ h with next := h.next + n }, 0)], [], 0, [], []⟩ with
    | some s => if readsOk P bef s s.reads && decide (s.news.length ≤ n) then
        match lastD s.hs with
        | some (h, ins) => match adoptAll h (full ops.size) ins s.news with
          | some h => some (.at_ .normal { a with tmps := finalT a.tmps ops.toList s.vals } h)
          | none => none
        | none => none
      else none
    | none => none
  else none
end Go.Ev
end

noncomputable section
namespace Go.Ev
variable {G : Ctx}
open Go.RowKit

theorem OR.phi {e : (Env G)} {w : World} {id : Nat} {o : (AObj G)} (h : OR e w id o) (ho : o.owned = true) : e.φ id ≠ none := by
  intro hn
  cases o with
  | cells vs g =>
    cases g with
    | some g => obtain ⟨b, h1, _⟩ := h; rw [h1] at hn; cases hn
    | none => cases ho
  | map es => obtain ⟨b, y, h1, _⟩ := h; rw [h1] at hn; cases hn
  | loop l => obtain ⟨b, y, h1, _⟩ := h; rw [h1] at hn; cases hn
  | defd ds => obtain ⟨b, y, h1, _⟩ := h; rw [h1] at hn; cases hn
  | dead => cases ho

section
variable {e0 e : (Env G)} {h0 h : (AH G)} {w0 w : World}

theorem adopt_get (h : (AH G)) (id : Nat) (vs : List (AV G)) (j : Nat) : (h.adopt id vs).objs.get j = if j = id then some (.cells vs (some h.ngrp)) else h.objs.get j := Tr.get_set _ _ _ _

theorem adopt_owned {id b : Nat} {vs : List (AV G)} (hφ : e.φ id = some (b, 0)) {r : Nat} (ho : Owned e (h.adopt id vs) r) : Owned e h r ∨ r = b := by
  obtain ⟨i, o, x, h1, h2, h3⟩ := ho
  rw [adopt_get] at h1
  by_cases hi : i = id
  · subst hi; rw [hφ] at h3; cases h3; exact .inr rfl
  · rw [if_neg hi] at h1; exact .inl ⟨i, o, x, h1, h2, h3⟩

theorem HR.adopt (H : HR e h w) {id b : Nat} {vs : List (AV G)} (_hid : h.objs.get id = none) (hn : id < h.next) (hO : OR e w id (.cells vs (some 0))) (hφ : e.φ id = some (b, 0)) (hno : ¬ Owned e h b) : HR e (h.adopt id vs) w := by
  have hgg : ∀ g, (h.adopt id vs).grps.get g = if g = h.ngrp then some [id] else h.grps.get g := fun g => Tr.get_set _ _ _ _
  refine ⟨?_, ?_, ?_, ?_, ?_, ?_, ?_, ?_, H.base⟩
  · intro j o ho
    rw [adopt_get] at ho
    by_cases hj : j = id
    · rw [if_pos hj] at ho; cases ho; subst hj; exact hO
    · rw [if_neg hj] at ho; exact H.obj j o ho
  · intro i j oi oj b' x y hij hi hj hoi hoj hφi hφj
    rw [adopt_get] at hi hj
    by_cases h1 : i = id
    · by_cases h2 : j = id
      · exact absurd (h1.trans h2.symm) hij
      · rw [if_neg h2] at hj
        rw [h1, hφ] at hφi; cases hφi
        exact absurd ⟨j, oj, y, hj, hoj, hφj⟩ hno
    · rw [if_neg h1] at hi
      by_cases h2 : j = id
      · rw [h2, hφ] at hφj; cases hφj
        exact absurd ⟨i, oi, x, hi, hoi, hφi⟩ hno
      · rw [if_neg h2] at hj
        exact H.sep i j oi oj b' x y hij hi hj hoi hoj hφi hφj
  · intro j us g ho
    rw [adopt_get] at ho
    by_cases hj : j = id
    · rw [if_pos hj] at ho; cases ho
      exact ⟨[id], by rw [hgg, if_pos rfl], by simp [hj]⟩
    · rw [if_neg hj] at ho
      obtain ⟨st, h1, h2⟩ := H.grp j us g ho
      have : g ≠ h.ngrp := fun k => by rw [H.freshg g (by omega)] at h1; cases h1
      exact ⟨st, by rw [hgg, if_neg this]; exact h1, h2⟩
  · intro g st hst
    rw [hgg] at hst
    by_cases hg : g = h.ngrp
    · rw [if_pos hg] at hst; cases hst; simp
    · rw [if_neg hg] at hst
      refine (H.ord g st hst).imp_of_mem (fun {i j} hi hj hp vi vj h1 h2 => ?_)
      rw [adopt_get] at h1 h2
      split at h1
      · cases h1; exact absurd rfl hg
      · split at h2
        · cases h2; exact absurd rfl hg
        · exact hp vi vj h1 h2
  · intro j hj
    have hj' : h.next ≤ j := hj
    rw [adopt_get, if_neg (by omega)]
    exact H.fresh j hj'
  · exact H.freshφ
  · intro g hg
    have hg' : h.ngrp + 1 ≤ g := hg
    rw [hgg, if_neg (by omega)]
    exact H.freshg g (by omega)
  · intro g st j hst hj
    show j < h.next
    rw [hgg] at hst
    by_cases hg : g = h.ngrp
    · rw [if_pos hg] at hst; cases hst; simp at hj; omega
    · rw [if_neg hg] at hst
      exact H.gsmall g st j hst hj

theorem St.adopt (S : St e0 h0 w0 e h w) {id b : Nat} {vs : List (AV G)} (hid : h.objs.get id = none) (hn : id < h.next) (hO : OR e w id (.cells vs (some 0))) (hφ : e.φ id = some (b, 0)) (hno : ¬ Owned e h b) (hb : w0.heap.size ≤ b) :
    St e0 h0 w0 e (h.adopt id vs) w :=
  ⟨S.le, S.hr.adopt hid hn hO hφ hno, S.os, S.tape, S.output, S.size, S.keep, fun r hr ho => (adopt_owned hφ ho).elim (S.own r hr) (fun k => by omega), S.next, S.nob⟩

/-- A row that is there, and that the abstract heap hasn't taken up. -/
def Pend (e : (Env G)) (h : (AH G)) (w : World) (b0 ins : Nat) (x : (ANew G)) : Prop :=
  ∃ b, e.φ x.id = some (b, 0) ∧ b0 ≤ b ∧ b < w.heap.size ∧ (ins.testBit x.i = false → OR e w x.id (.cells x.vs (some 0)) ∧ ¬ Owned e h b)

theorem adoptAll_sound {ins need : Nat} : ∀ {l : List (ANew G)} {h h' : (AH G)}, adoptAll h need ins l = some h' → St e0 h0 w0 e h w →
    (∀ x ∈ l, x.id < h.next) → (∀ x ∈ l, need.testBit x.i = true → Pend e h w w0.heap.size ins x) →
    (∀ x ∈ l, ∀ y ∈ l, x.i ≠ y.i → ∀ b, e.φ x.id = some (b, 0) → e.φ y.id ≠ some (b, 0)) → l.Pairwise (fun x y => x.i ≠ y.i) →
    St e0 h0 w0 e h' w ∧ h'.next = h.next ∧ ∀ r, Owned e h' r → Owned e h r ∨ ∃ x ∈ l, need.testBit x.i = true ∧ ins.testBit x.i = false ∧ e.φ x.id = some (r, 0)
  | [], h, h', ha, S, _, _, _, _ => by
    simp only [adoptAll, Option.some.injEq] at ha; subst ha
    exact ⟨S, rfl, fun r ho => .inl ho⟩
  | x :: l, h, h', ha, S, hn, hp, hj, hd => by
    have hd' := List.pairwise_cons.1 hd
    simp only [adoptAll] at ha
    split at ha
    · rename_i hc
      simp only [Bool.and_eq_true, Bool.not_eq_true'] at hc
      split at ha
      · rename_i hget
        obtain ⟨b, k1, k2, _, k3⟩ := hp x (by simp) hc.1
        obtain ⟨k4, k5⟩ := k3 hc.2
        have S' := S.adopt hget (hn x (by simp)) k4 k1 k5 k2
        obtain ⟨r1, r2, r3⟩ := adoptAll_sound (l := l) ha S' (fun y hy => hn y (by simp [hy])) (fun y hy hneed => by
          obtain ⟨c, q1, q2, q4, q3⟩ := hp y (by simp [hy]) hneed
          refine ⟨c, q1, q2, q4, fun hi => ⟨(q3 hi).1, fun ho => ?_⟩⟩
          rcases adopt_owned k1 ho with ho | rfl
          · exact (q3 hi).2 ho
          · exact hj x (by simp) y (by simp [hy]) (hd'.1 y hy) _ k1 q1) (fun y hy z hz => hj y (by simp [hy]) z (by simp [hz])) hd'.2
        refine ⟨r1, r2, fun r ho => ?_⟩
        rcases r3 r ho with ho | ⟨y, hy, q⟩
        · rcases adopt_owned k1 ho with ho | rfl
          · exact .inl ho
          · exact .inr ⟨x, by simp, hc.1, hc.2, k1⟩
        · exact .inr ⟨y, by simp [hy], q⟩
      · cases ha
    · obtain ⟨r1, r2, r3⟩ := adoptAll_sound (l := l) ha S (fun y hy => hn y (by simp [hy])) (fun y hy => hp y (by simp [hy])) (fun y hy z hz => hj y (by simp [hy]) z (by simp [hz])) hd'.2
      refine ⟨r1, r2, fun r ho => ?_⟩
      rcases r3 r ho with ho | ⟨y, hy, q⟩
      · exact .inl ho
      · exact .inr ⟨y, by simp [hy], q⟩

theorem bind_owned {id b r : Nat} (H : HR e h w) (hφ : e.φ id = none) {k : Nat} (ho : Owned (e.bind id b r) h k) : Owned e h k := by
  obtain ⟨i, o, x, h1, h2, h3⟩ := ho
  have hi : i ≠ id := fun hi => by subst hi; exact (H.obj _ _ h1).phi h2 hφ
  rw [Env.bind_other _ _ _ hi] at h3
  exact ⟨i, o, x, h1, h2, h3⟩

/-- A new row whose name was laid by. -/
theorem St.early (S : St e0 h0 w0 e h w) {id r : Nat} (hφ : e.φ id = none) (hn : h0.next ≤ id) (hlt : id < h.next) (O : Obj) :
    St e0 h0 w0 (e.bind id w.heap.size r) h (w.alloc O) := by
  have H := S.hr
  have hle : e.le (e.bind id w.heap.size r) := Env.le_bind hφ
  have ne : ∀ {i o}, h.objs.get i = some o → o.owned = true → i ≠ id := fun {i o} h1 h2 hi => by subst hi; exact (H.obj _ _ h1).phi h2 hφ
  refine ⟨S.le.trans hle, ⟨?_, ?_, H.grp, H.ord, H.fresh, ?_, H.freshg, H.gsmall, ?_⟩, S.os, S.tape, S.output, ?_, ?_, ?_, S.next, ?_⟩
  · intro j o ho; exact (H.obj j o ho).alloc O hle H.base
  · intro i j oi oj b x y hij hi hj hoi hoj hφi hφj
    rw [Env.bind_other _ _ _ (ne hi hoi)] at hφi
    rw [Env.bind_other _ _ _ (ne hj hoj)] at hφj
    exact H.sep i j oi oj b x y hij hi hj hoi hoj hφi hφj
  · intro j hj
    rw [Env.bind_other _ _ _ (by omega)]
    exact H.freshφ j hj
  · show e.base ≤ _
    have := H.base; simp; omega
  · have := S.size; simp; omega
  · intro k hk hno
    rw [alloc_old w O (Nat.lt_of_lt_of_le hk S.size)]
    exact S.keep k hk hno
  · intro k hk ho
    exact S.own k hk (bind_owned H hφ ho)
  · intro j hj k
    rw [Env.bind_other _ _ _ (by omega)]
    exact S.nob j hj k

theorem St.reserve (H : HR e h w) (n : Nat) : St e h w e { h with next := h.next + n } w := by
  refine ⟨.refl e, ⟨H.obj, H.sep, H.grp, H.ord, fun i hi => H.fresh i (Nat.le_trans (Nat.le_add_right _ _) hi), fun i hi => H.freshφ i (Nat.le_trans (Nat.le_add_right _ _) hi), H.freshg, fun g st i h1 h2 => ?_, H.base⟩, rfl, rfl, rfl, Nat.le_refl _, fun _ _ _ => rfl, fun _ _ h => h, Nat.le_add_right _ _, fun _ _ k => k⟩
  have := H.gsmall g st i h1 h2
  show i < h.next + n
  omega

/-- A step leaves a row alone that the abstract heap hasn't taken up. -/
theorem Pend.step {e' : (Env G)} {h' : (AH G)} {w' : World} {b0 ins ins' : Nat} {x : (ANew G)} (hp : Pend e h w b0 ins x) (hins : ins'.testBit x.i = false → ins.testBit x.i = false) {B : (AH G)}
    (hB : ins'.testBit x.i = false → ∀ b, e.φ x.id = some (b, 0) → Owned e B b → Owned e h b) (S : St e B w e' h' w') : Pend e' h' w' b0 ins' x := by
  obtain ⟨b, k1, k2, k6, k3⟩ := hp
  refine ⟨b, S.le.φ _ _ k1, k2, Nat.lt_of_lt_of_le k6 S.size, fun hi => ?_⟩
  obtain ⟨k4, k5⟩ := k3 (hins hi)
  have hlt : b < w.heap.size := k4.block_lt rfl k1
  have hno : ¬ Owned e B b := fun ho => k5 (hB hi b k1 ho)
  refine ⟨(k4.same (w' := w') fun b' y hφ => ?_).mono S.le, fun ho => hno (S.own b hlt ho)⟩
  rw [k1] at hφ; cases hφ
  exact S.keep b hlt hno

end
end Go.Ev
end

noncomputable section
namespace Go.Ev
variable {G : Ctx}
open Go.RowKit

mutual
theorem sameA_eq {a b : (AV G)} (h : sameA a b = true) : a = b := by
  unfold sameA at h
  split at h
  case h_3 => simp only [decide_eq_true_eq] at h; rw [h]
  case h_12 => rw [samesA_eq h]
  case h_13 => rw [samesA_eq h]
  case h_14 => simp only [beq_iff_eq, Bool.and_eq_true] at h; rw [h.1.1, samesA_eq h.1.2, samesA_eq h.2]
  case h_16 => simp only [Bool.and_eq_true] at h; rw [SX.same_eq h.1.1, eqI_eq h.1.2, eqI_eq h.2]
  all_goals first | rfl | (simp only [beq_iff_eq, Bool.and_eq_true] at h; simp [h]; done) | cases h
termination_by SizeOf.sizeOf a
theorem samesA_eq {a b : List (AV G)} (h : samesA a b = true) : a = b := by
  match a, b with
  | [], [] => rfl
  | x :: r, y :: s =>
    simp only [samesA, Bool.and_eq_true] at h
    rw [sameA_eq h.1, samesA_eq h.2]
  | [], _ :: _ => simp [samesA] at h
  | _ :: _, [] => simp [samesA] at h
termination_by SizeOf.sizeOf a
end

/-! ### What comes before -/
def BefOK (ops : Array Oper) (bef : List Nat) : Prop :=
  ∀ (i : Nat) (o : Oper), ops[i]? = some o → ∃ b, bef[i]? = some b ∧ ∀ j, b.testBit j = true → ∃ ed ∈ o.after, Region.binds .any ed = true ∧ (ed.on = j ∨ (bef.getD ed.on 0).testBit j = true)

theorem maskL_spec {acc : List Nat} : ∀ {l : List Edge} {j : Nat}, (maskL acc l).testBit j = true → ∃ ed ∈ l, Region.binds .any ed = true ∧ (ed.on = j ∨ (acc.getD ed.on 0).testBit j = true)
  | [], j, h => by simp [maskL] at h
  | e :: r, j, h => by
    unfold maskL at h
    split at h
    · rename_i hb
      simp only [Nat.testBit_or, Bool.or_eq_true] at h
      rcases h with (h | h) | h
      · refine ⟨e, by simp, hb, .inl ?_⟩
        rw [Nat.testBit_shiftLeft] at h
        simp only [Bool.and_eq_true, decide_eq_true_eq] at h
        have h2 := h.2
        rw [Nat.testBit_one_eq_true_iff_self_eq_zero] at h2
        omega
      · exact ⟨e, by simp, hb, .inr h⟩
      · obtain ⟨ed, h1, h2⟩ := maskL_spec h; exact ⟨ed, by simp [h1], h2⟩
    · obtain ⟨ed, h1, h2⟩ := maskL_spec h; exact ⟨ed, by simp [h1], h2⟩

theorem befL_prefix : ∀ {r : List Oper} {acc : List Nat} {i : Nat}, i < acc.length → (befL r acc)[i]? = acc[i]?
  | [], acc, i, _ => rfl
  | o :: r, acc, i, h => by
    unfold befL
    rw [befL_prefix (by simp; omega), List.getElem?_append_left h]

theorem befL_at : ∀ {r : List Oper} {acc : List Nat} {k : Nat} {o : Oper}, r[k]? = some o → ∃ acc' : List Nat, (befL r acc)[acc.length + k]? = some (maskL acc' o.after.toList) ∧ (∀ (j b : Nat), acc'[j]? = some b → (befL r acc)[j]? = some b)
  | [], acc, k, o, h => by simp at h
  | p :: r, acc, 0, o, h => by
    simp at h; subst h
    refine ⟨acc, ?_, fun j b hj => ?_⟩
    · unfold befL; rw [befL_prefix (by simp)]; simp
    · have hlt := (List.getElem?_eq_some_iff.1 hj).1
      unfold befL; rw [befL_prefix (by simp; omega), List.getElem?_append_left hlt]; exact hj
  | p :: r, acc, k + 1, o, h => by
    obtain ⟨acc', h1, h2⟩ := befL_at (r := r) (acc := acc ++ [maskL acc p.after.toList]) (k := k) (o := o) (by simpa using h)
    refine ⟨acc', ?_, ?_⟩
    · unfold befL
      have : acc.length + (k + 1) = (acc ++ [maskL acc p.after.toList]).length + k := by simp; omega
      rw [this]; exact h1
    · unfold befL; exact h2

theorem befOK (ops : Array Oper) : BefOK ops (befL ops.toList []) := by
  intro i o ho
  obtain ⟨acc', h1, h2⟩ := befL_at (r := ops.toList) (acc := []) (k := i) (o := o) (by simpa using ho)
  refine ⟨_, by simpa using h1, fun j hj => ?_⟩
  obtain ⟨ed, k1, k2, k3⟩ := maskL_spec hj
  refine ⟨ed, by simpa using k1, k2, k3.imp id fun k => ?_⟩
  cases hx : acc'[ed.on]? with
  | none => simp [hx] at k
  | some b =>
    have := h2 _ _ hx
    simp only [List.getD_eq_getElem?_getD, hx, Option.getD_some] at k
    simp only [List.getD_eq_getElem?_getD, this, Option.getD_some, k]

def EdgesOK (ops : Array Oper) : Prop := ∀ (i : Nat) (o : Oper), ops[i]? = some o → ∀ ed ∈ o.after, Region.binds .any ed = true → ed.on < i

/-- A list of what was carried out, closed under the edges. -/
def Closed (ops : Array Oper) (L : Nat → Bool) : Prop := ∀ (i : Nat) (o : Oper), ops[i]? = some o → L i = true → ∀ ed ∈ o.after, Region.binds .any ed = true → L ed.on = true

theorem Closed.bits {ops : Array Oper} {bef : List Nat} {L : Nat → Bool} (hB : BefOK ops bef) (hE : EdgesOK ops) (hC : Closed ops L) : ∀ (n i : Nat) (o : Oper), i < n → ops[i]? = some o →
    (∀ ed ∈ o.after, Region.binds .any ed = true → L ed.on = true) → ∀ j, (bef.getD i 0).testBit j = true → L j = true
  | 0, i, o, hlt, _, _, _, _ => by omega
  | n + 1, i, o, hlt, ho, hed, j, hj => by
    obtain ⟨b, h1, h2⟩ := hB i o ho
    simp only [List.getD_eq_getElem?_getD, h1, Option.getD_some] at hj
    obtain ⟨ed, k1, k2, k3⟩ := h2 j hj
    have hl := hed ed k1 k2
    rcases k3 with rfl | k3
    · exact hl
    · have hlt' := hE i o ho ed k1 k2
      cases ho' : ops[ed.on]? with
      | none =>
        have := (Array.getElem?_eq_some_iff.1 ho).1
        rw [Array.getElem?_eq_none_iff] at ho'
        omega
      | some o' => exact Closed.bits hB hE hC n ed.on o' (by omega) ho' (hC ed.on o' ho' hl) j k3

/-! ### What an operation sees -/
def Named (ops : Array Oper) (l : List Edge) (x : Nat) : Prop := ∃ ed ∈ l, Region.binds .any ed = true ∧ (ops[ed.on]?).bind (·.dst) = some x

theorem see_sound {e : (Env G)} {ops : Array Oper} {vals : List (AV G)} {c : Array Value} : ∀ {l : List Edge} {tm : (TT G)} {t : Array Value}, TRs e tm t → c.size = t.size →
    (∀ ed ∈ l, Region.binds .any ed = true → ∀ d, (ops[ed.on]?).bind (·.dst) = some d → ∀ v', c[d]? = some v' → VR e (vals.getD ed.on undefA) v') →
    ∃ t' : Array Value, TRs e (seeA ops vals l tm) t' ∧ t'.size = t.size ∧ (∀ x, Named ops l x → t'[x]? = c[x]?) ∧ (∀ x, ¬ Named ops l x → t'[x]? = t[x]?)
  | [], tm, t, h, hs, _ => ⟨t, h, rfl, fun x ⟨ed, h1, _⟩ => by simp at h1, fun _ _ => rfl⟩
  | ed :: l, tm, t, h, hs, hv => by
    have tail : (Region.binds .any ed = true → (ops[ed.on]?).bind (·.dst) = none) → seeA ops vals (ed :: l) tm = seeA ops vals l tm →
        ∃ t' : Array Value, TRs e (seeA ops vals (ed :: l) tm) t' ∧ t'.size = t.size ∧ (∀ x, Named ops (ed :: l) x → t'[x]? = c[x]?) ∧ (∀ x, ¬ Named ops (ed :: l) x → t'[x]? = t[x]?) := fun hno heq => by
      obtain ⟨t', r1, r2, r3, r4⟩ := see_sound (l := l) h hs (fun ed' h' => hv ed' (by simp [h']))
      have hn : ∀ x, Named ops (ed :: l) x ↔ Named ops l x := fun x => by
        constructor
        · rintro ⟨ed', h1, h2, h3⟩
          rcases List.mem_cons.1 h1 with rfl | h1
          · rw [hno h2] at h3; cases h3
          · exact ⟨ed', h1, h2, h3⟩
        · rintro ⟨ed', h1, h2, h3⟩; exact ⟨ed', by simp [h1], h2, h3⟩
      exact ⟨t', by rw [heq]; exact r1, r2, fun x hx => r3 x ((hn x).1 hx), fun x hx => r4 x (fun k => hx ((hn x).2 k))⟩
    by_cases hb : Region.binds .any ed = true
    · cases hd : (ops[ed.on]?).bind (·.dst) with
      | none => exact tail (fun _ => hd) (by simp [seeA, hb, hd])
      | some d =>
        have h1 : TRs e (setT tm d (vals.getD ed.on undefA)) (t.setIfInBounds d (c.getD d undef)) := h.set_or fun hlt => by
          have : d < c.size := hs.symm ▸ hlt
          refine hv ed (by simp) hb d hd _ ?_
          simp [this]
        obtain ⟨t', r1, r2, r3, r4⟩ := see_sound (l := l) h1 (by simpa using hs) (fun ed' h' => hv ed' (by simp [h']))
        refine ⟨t', by simpa [seeA, hb, hd] using r1, by simpa using r2, fun x hx => ?_, fun x hx => ?_⟩
        · by_cases hx' : Named ops l x
          · exact r3 x hx'
          · rw [r4 x hx']
            obtain ⟨ed', k1, k2, k3⟩ := hx
            rcases List.mem_cons.1 k1 with rfl | k1
            · rw [hd] at k3; cases k3
              rcases Nat.lt_or_ge d t.size with hlt | hge
              · have : d < c.size := hs.symm ▸ hlt
                simp [hlt, this]
              · rw [Array.getElem?_eq_none (by simpa using hge), Array.getElem?_eq_none (hs.symm ▸ hge)]
            · exact absurd ⟨ed', k1, k2, k3⟩ hx'
        · rw [r4 x (fun ⟨ed', k1, k2, k3⟩ => hx ⟨ed', by simp [k1], k2, k3⟩)]
          have : d ≠ x := fun k => hx ⟨ed, by simp, hb, k ▸ hd⟩
          rw [Array.getElem?_setIfInBounds_ne this]
    · exact tail (fun k => absurd k hb) (by simp [seeA, hb])

theorem seeA_congr {ops : Array Oper} {vals vals' : List (AV G)} : ∀ {l : List Edge} {tm : (TT G)}, (∀ ed ∈ l, Region.binds .any ed = true → vals.getD ed.on undefA = vals'.getD ed.on undefA) → seeA ops vals l tm = seeA ops vals' l tm
  | [], _, _ => rfl
  | ed :: l, tm, h => by
    unfold seeA
    split
    · rename_i hb
      split
      · rw [h ed (by simp) hb]; exact seeA_congr fun ed' h' => h ed' (by simp [h'])
      · exact seeA_congr fun ed' h' => h ed' (by simp [h'])
    · exact seeA_congr fun ed' h' => h ed' (by simp [h'])

/-! ### At the end -/
theorem setT_n (x : (TT G)) (i : Nat) (v : (AV G)) : (setT x i v).n = x.n := by rw [setT_def]; split <;> rfl
theorem setT_other (x : (TT G)) {i j : Nat} (v : (AV G)) (h : j ≠ i) : (setT x i v).t.get j = x.t.get j := by
  rw [setT_def]; split
  · exact Tr.get_set_other _ _ h
  · rfl
theorem setT_same (x : (TT G)) {i : Nat} (v : (AV G)) (h : i < x.n) : (setT x i v).t.get i = some v := by
  rw [setT_def, if_pos h]; exact Tr.get_set_same _ _ _

theorem finalT_n : ∀ {os : List Oper} {vs : List (AV G)} {tm : (TT G)}, (finalT tm os vs).n = tm.n
  | [], vs, tm => by simp [finalT]
  | o :: os, [], tm => by simp [finalT]
  | o :: os, v :: vs, tm => by
    unfold finalT; rw [finalT_n]; split
    · rw [setT_n]
    · rfl

theorem finalT_other : ∀ {os : List Oper} {vs : List (AV G)} {tm : (TT G)} {t : Nat}, (∀ o ∈ os, o.dst ≠ some t) → (finalT tm os vs).t.get t = tm.t.get t
  | [], vs, tm, t, _ => by simp [finalT]
  | o :: os, [], tm, t, _ => by simp [finalT]
  | o :: os, v :: vs, tm, t, h => by
    unfold finalT; rw [finalT_other (fun o' h' => h o' (by simp [h']))]
    have h1 := h o (by simp)
    split
    · rename_i d hd
      exact setT_other _ _ fun k => h1 (k ▸ hd)
    · rfl

theorem finalT_out : ∀ {os : List Oper} {vs : List (AV G)} {tm : (TT G)} {t : Nat}, tm.n ≤ t → (finalT tm os vs).t.get t = tm.t.get t
  | [], vs, tm, t, _ => by simp [finalT]
  | o :: os, [], tm, t, _ => by simp [finalT]
  | o :: os, v :: vs, tm, t, h => by
    unfold finalT
    split
    · rename_i d hd
      rw [finalT_out (by rw [setT_n]; exact h)]
      rw [setT_def]
      split
      · exact Tr.get_set_other _ _ (by omega)
      · rfl
    · exact finalT_out h

theorem finalT_at : ∀ {os : List Oper} {vs : List (AV G)} {tm : (TT G)} {t k : Nat} {o : Oper} {v : (AV G)}, dstsOk os = true → os[k]? = some o → o.dst = some t → vs[k]? = some v → t < tm.n → (finalT tm os vs).t.get t = some v
  | [], vs, tm, t, k, o, v, _, h, _, _, _ => by simp at h
  | p :: os, [], tm, t, k, o, v, _, _, _, h, _ => by simp at h
  | p :: os, u :: vs, tm, t, 0, o, v, hd, h, hdst, hv, hlt => by
    simp at h hv; subst h hv
    unfold finalT
    simp only [dstsOk, hdst, Bool.and_eq_true, List.all_eq_true] at hd
    rw [finalT_other (fun o' h' => by have := hd.1 o' h'; simpa using this)]
    simp only [hdst]
    exact setT_same _ _ hlt
  | p :: os, u :: vs, tm, t, k + 1, o, v, hd, h, hdst, hv, hlt => by
    unfold finalT
    simp only [dstsOk, Bool.and_eq_true] at hd
    refine finalT_at hd.2 (by simpa using h) hdst (by simpa using hv) ?_
    split
    · rw [setT_n]; exact hlt
    · exact hlt

/-! ### Shapes -/
theorem shapeOk_spec {ops : Array Oper} {bef : List Nat} : ∀ {r : List Oper} {i k : Nat} {o : Oper}, shapeOk ops bef i r = true → r[k]? = some o →
    (∀ ed ∈ o.after, Region.binds .any ed = true → ed.on < i + k) ∧ ∀ t ∈ o.looksAt ops, seesOk ops bef (i + k) o t 0 ops.toList = true
  | [], i, k, o, _, h => by simp at h
  | p :: r, i, 0, o, hs, h => by
    simp at h; subst h
    simp only [shapeOk, Bool.and_eq_true] at hs
    refine ⟨fun ed he hb => ?_, fun t ht => ?_⟩
    · have := Array.all_eq_true_iff_forall_mem.1 hs.1.1 ed he
      simpa [hb] using this
    · have := List.all_eq_true.1 hs.1.2 t ht
      simpa using this
  | p :: r, i, k + 1, o, hs, h => by
    simp only [shapeOk, Bool.and_eq_true] at hs
    have := shapeOk_spec (k := k) (o := o) hs.2 (by simpa using h)
    have e : i + (k + 1) = i + 1 + k := by omega
    rw [e]; exact this

theorem seesOk_spec {ops : Array Oper} {bef : List Nat} {i : Nat} {o : Oper} {t : Nat} : ∀ {r : List Oper} {j k : Nat} {p : Oper}, seesOk ops bef i o t j r = true → r[k]? = some p → p.dst = some t →
    j + k = i ∨ (bef.getD (j + k) 0).testBit i = true ∨ ∃ ed ∈ o.after, Region.binds .any ed = true ∧ ed.on = j + k
  | [], j, k, p, _, h, _ => by simp at h
  | q :: r, j, 0, p, hs, h, hd => by
    simp at h; subst h
    simp only [seesOk, Bool.and_eq_true, Bool.or_eq_true, hd, bne_self_eq_false, Bool.false_eq_true, false_or, beq_iff_eq] at hs
    rcases hs.1 with (h | h) | h
    · exact .inl (by omega)
    · exact .inr (.inl (by simpa using h))
    · obtain ⟨ed, he, hb⟩ := Array.any_eq_true'.1 h
      simp only [Bool.and_eq_true, beq_iff_eq] at hb
      exact .inr (.inr ⟨ed, he, hb.1, by omega⟩)
  | q :: r, j, k + 1, p, hs, h, hd => by
    simp only [seesOk, Bool.and_eq_true] at hs
    have := seesOk_spec (k := k) (p := p) hs.2 (by simpa using h) hd
    have e : j + (k + 1) = j + 1 + k := by omega
    rw [e]; exact this
end Go.Ev
end

noncomputable section
namespace Go.Ev
variable {G : Ctx}
open Go.RowKit
section
variable {P : Program} {L : Look} {e : (Env G)} {a : Act} {tm : (TT G)} {h : (AH G)} {w : World} {self : (Job G) → Option (Res G)}

def newC (k : Option Nat) (a : Addr) : Value :=
  match k with
  | none => .pointer (some a)
  | some l => .slice (some a) l l

theorem newA_sound (ht : TRs e tm a.tmps) {o : Oper} {k : Option Nat} {vs : List (AV G)} (ho : newA P tm o.op = some (k, vs)) (w : World) : ∃ (c : Array Value) (t : TypeId),
    (execOp a.eval o).run P w = .ok (.value (newC k ⟨w.heap.size, 0, none⟩)) (w.alloc (.cells c t)) ∧ (∀ (i : Nat) (x : (AV G)), vs[i]? = some x → ∃ v, c[i]? = some v ∧ VR e x v) ∧ (∀ cs b, o.op ≠ .select cs b) ∧ ∀ c, o.op ≠ .defer c := by
  unfold newA at ho
  split at ho
  · rename_i el hop
    obtain ⟨z, hz, hq⟩ := Option.map_eq_some_iff.1 ho
    cases hq
    obtain ⟨i, zv, hi, hzv, hzr⟩ := zeroOf_sound (e := e) hz
    exact ⟨zv.cells, el, by simp [execOp, hop, Instr.alloc, run_zeroValue hi hzv, newVar, newRow, newC], get_of_VRs (VR_parts hzr), by rw [hop]; simp, by rw [hop]; simp⟩
  · rename_i el x hop
    obtain ⟨p, hp, hq⟩ := Option.map_eq_some_iff.1 ho
    cases hq
    have hv := rho_sound ht hp
    exact ⟨(a.eval x).cells, el, by simp [execOp, hop, Instr.box, newVar, newRow, newC], get_of_VRs (VR_parts hv), by rw [hop]; simp, by rw [hop]; simp⟩
  · rename_i t len parts hop
    split at ho
    · rename_i el ps hu hps
      split at ho
      · rename_i n z hn hz
        split at ho
        · rename_i hc
          obtain ⟨hc1, hc2, hc3⟩ := hc
          obtain ⟨cs, hfill, hq⟩ := Option.map_eq_some_iff.1 ho
          cases hq
          obtain ⟨i, zv, hi, hzv, hzr⟩ := zeroOf_sound (e := e) hz
          have hin : i.size = n := by unfold szOf at hn; rw [hi] at hn; simpa using hn
          have hzp := VR_parts hzr
          obtain ⟨ys, k1, k2⟩ := fillA_sound (rhoParts_sound ht hps) (reptA_sound hzp len n hc3.symm) hfill
          refine ⟨ys, el, ?_, get_of_VRs k2, by rw [hop]; simp, by rw [hop]; simp⟩
          have k1' : Instr.fill (fun j => some (j * n, n)) ((Array.range (len * n)).map fun j => zv.cells[j % zv.cells.size]!) (parts.toList.map fun p => (p.1, a.eval p.2)) = some ys := k1
          have hnot : ¬ 16777216 < len * n := by omega
          by_cases hz0 : len * n = 0
          · have hl0 : len = 0 := by rcases Nat.mul_eq_zero.1 hz0 with h | h <;> omega
            subst hl0
            simp [range0] at k1'
            simp [execOp, hop, Instr.buildSlice, run_underlying hu, run_sizeOf hn, k1', newRow, range0, newC]
          · simp [execOp, hop, Instr.buildSlice, run_underlying hu, run_sizeOf hn, hnot, hz0, run_zeroValue hi hzv, k1', newRow, newC]
        · cases ho
      · cases ho
    · cases ho
  · cases ho

theorem opA_call_sel {o : Op} {f : FuncId} {args : List (AV G)} (ho : opA P L tm h o = some (.call f args)) : ∀ cs b, o ≠ .select cs b := by
  intro cs b hc; subst hc; simp [opA, pureOp] at ho

theorem opA_round_sel {o : Op} {id : Nat} {args : List (AV G)} (ho : opA P L tm h o = some (.round id args)) : ∀ cs b, o ≠ .select cs b := by
  intro cs b hc; subst hc; simp [opA, pureOp] at ho

variable {F0 : Fence} {rp : Bool} {F : Fence} {rd : Option Nat} {n : Nat} {Q : Exit → Act → World → Prop} {K : Act → World → Prop}

/-- One step, seen from another act whose operands are the same. -/
theorem runOp_sound (hB : FB P L F0 rp) (hs : SelfOK P F0 self) {a' : Act} (H : HR e h w) (hA : TRs e tm a'.tmps) (hF : FOK F0 F rd e) {o : Oper} (hab : aboutA L tm o.op = true) (hev : ∀ x ∈ o.op.operands, a.eval x = a'.eval x) {v : (AV G)} {h1 : (AH G)}
    (ho : runOp P L self tm h o.op = some (v, h1)) (hK : ∀ e1 w1 v', St e h w e1 h1 w1 → VR e1 v v' → K (a.put o.dst v') w1) : o.wpIn F n P a w K Q := by
  have habs : ∀ f, o.about P w a.eval = some f → F.fn f := fun f hf => by
    rw [about_congr o w hev] at hf
    exact hF.fn hB (aboutA_sound hB.look hA hab hf)
  unfold runOp at ho
  split at ho
  · rename_i v1 h2 hop
    cases ho
    obtain ⟨⟨e', w', r, v', k1, k2, k3, k4⟩, k5, k6⟩ := opA_does H hA hop
    refine ⟨habs, ?_⟩
    rw [semAt_plain k6, execOp_congr o k5 hev, k1]
    rcases k2 with rfl | ⟨rfl, rfl⟩
    · exact hK e' w' v' k4 k3
    · exact hK e' w' undef k4 k3
  · rename_i f args hop
    split at ho
    · rename_i v1 h2 hc
      cases ho
      have kc := hs _ _ hc
      obtain ⟨vs, k1, k2, k3⟩ := opA_call hB.look (aa := ⟨tm, []⟩) (a := { a' with defers := [] }) ⟨hA, rfl⟩ hop
      refine ⟨habs, ?_⟩
      rw [semAt_plain k3, execOp_congr o (opA_call_sel hop) hev]
      have k2' : (execOp a'.eval o).run P w = .ok (.enter f vs) w := k2 w
      rw [k2']
      exact ⟨hF.depth hB n, hF.calls (kc e vs w (n - 1) _ hF.1 H k1 (fun e1 v' w1 hst hv => hK e1 w1 v' hst hv))⟩
    · cases ho
  · rename_i lid args hop
    split at ho
    · rename_i v1 h2 hc
      cases ho
      have kc := hs _ _ hc
      obtain ⟨vs, b, o', hφ, k1, k2, k3⟩ := opA_round (aa := ⟨tm, []⟩) (a := { a' with defers := [] }) ⟨hA, rfl⟩ hop
      refine ⟨habs, ?_⟩
      rw [semAt_plain k3, execOp_congr o (opA_round_sel hop) hev]
      have k2' : (execOp a'.eval o).run P w = (Instr.yield b vs).run P w := k2 w
      rw [k2']
      obtain ⟨f', tm', as, bd, y1, y2⟩ := kc e vs w (n - 1) (fun
        | .returned v, w'' => K (a.put o.dst v) w''
        | .panicked chain, w'' => Q (.panic chain) a w''
        | .outgrown, _ => LetsOut Q) b o' hF.1 H k1 hφ (fun e1 v' w1 hst hv => hK e1 w1 v' hst hv)
      rw [y1]
      exact ⟨hF.depth hB n, hF.rounds y2⟩
    · cases ho
  · cases ho

/-! ### The readers -/
theorem maybeAt_of {i bi p : Nat} {bef : List Nat} : ∀ {l : List Nat} {q0 : Nat}, (∀ (q s : Nat), l[q]? = some s → (bi.testBit s = true → q0 + q < p) ∧ ((bef.getD s 0).testBit i = true → p ≤ q0 + q)) → maybeAt i bi bef p q0 l = true
  | [], _, _ => rfl
  | s :: r, q0, h => by
    have h0 := h 0 s (by simp)
    have ht := maybeAt_of (i := i) (bi := bi) (p := p) (bef := bef) (l := r) (q0 := q0 + 1) (fun q s' hq => by
      have := h (q + 1) s' (by simpa using hq)
      exact ⟨fun k => by have := this.1 k; omega, fun k => by have := this.2 k; omega⟩)
    unfold maybeAt
    rw [ht, Bool.and_true, Bool.and_eq_true]
    constructor
    · cases hb : bi.testBit s with
      | false => rfl
      | true => have := h0.1 hb; simpa using this
    · cases hb : (bef.getD s 0).testBit i with
      | false => rfl
      | true => have := h0.2 hb; simpa using this

theorem readsAt_spec {i bi : Nat} {o : Op} {v : (AV G)} {bef ss : List Nat} {news : List (ANew G)} : ∀ {l : List ((AH G) × Nat)} {p0 q : Nat} {hh : (AH G)} {ins : Nat}, readsAt P i bi o tm v bef ss news p0 l = true → l[q]? = some (hh, ins) → maybeAt i bi bef (p0 + q) 0 ss = true →
    ∃ h1, adoptAll hh bi ins news = some h1 ∧ readOp P tm h1 o = some v
  | [], p0, q, hh, ins, _, hq, _ => by simp at hq
  | (h', ins') :: r, p0, 0, hh, ins, hr, hq, hm => by
    simp at hq; obtain ⟨rfl, rfl⟩ := hq
    unfold readsAt at hr
    simp only [Nat.add_zero] at hm
    rw [if_pos hm, Bool.and_eq_true] at hr
    have hr := hr.1
    split at hr
    · rename_i h1 ha
      split at hr
      · rename_i u hu
        have := sameA_eq hr
        subst this
        exact ⟨h1, ha, hu⟩
      · cases hr
    · cases hr
  | (h', ins') :: r, p0, q + 1, hh, ins, hr, hq, hm => by
    unfold readsAt at hr
    simp only [Bool.and_eq_true] at hr
    refine readsAt_spec (p0 := p0 + 1) (q := q) hr.2 (by simpa using hq) ?_
    have e : p0 + 1 + q = p0 + (q + 1) := by omega
    rw [e]; exact hm

theorem readsOk_spec {bef : List Nat} {s : (DS G)} : ∀ {l : List (Nat × Op × (TT G))} {i : Nat} {o : Op} {tm : (TT G)}, readsOk P bef s l = true → (i, o, tm) ∈ l →
    readsAt P i (bef.getD i 0) o tm (s.vals.getD i undefA) bef s.ss s.news 0 s.hs = true
  | [], i, o, tm, _, h => by simp at h
  | (i', o', tm') :: r, i, o, tm, hr, h => by
    simp only [readsOk, Bool.and_eq_true] at hr
    rcases List.mem_cons.1 h with h | h
    · cases h; exact hr.1
    · exact readsOk_spec hr.2 h
end
end Go.Ev
end

noncomputable section
namespace Go.Ev
variable {G : Ctx}
open Go.RowKit
section

def OpC (P : Program) (L : Look) (self : (Job G) → Option (Res G)) (ops : Array Oper) (tm0 : (TT G)) (bef : List Nat) (s : (DS G)) (i : Nat) (o : Oper) : Prop :=
  aboutA L (seeA ops s.vals o.after.toList tm0) o.op = true ∧ ∃ v, s.vals[i]? = some v ∧
    ((wantA ops (seeA ops s.vals o.after.toList tm0) o = some false ∧ v = undefA ∧ i ∉ s.ss ∧ ∀ x ∈ s.news, x.i ≠ i) ∨
     (wantA ops (seeA ops s.vals o.after.toList tm0) o = some true ∧ pureOp P (seeA ops s.vals o.after.toList tm0) o.op = some v ∧ i ∉ s.ss ∧ ∀ x ∈ s.news, x.i ≠ i) ∨
     (wantA ops (seeA ops s.vals o.after.toList tm0) o = some true ∧ (i, o.op, seeA ops s.vals o.after.toList tm0) ∈ s.reads ∧ i ∉ s.ss ∧ ∀ x ∈ s.news, x.i ≠ i) ∨
     (wantA ops (seeA ops s.vals o.after.toList tm0) o = some true ∧ i ∉ s.ss ∧ ∃ x ∈ s.news, x.i = i ∧ ∃ k, newA P (seeA ops s.vals o.after.toList tm0) o.op = some (k, x.vs) ∧ v = newV k x.id) ∨
     (wantA ops (seeA ops s.vals o.after.toList tm0) o = some true ∧ (∀ x ∈ s.news, x.i ≠ i) ∧ ∃ q h ins h1 h' l, s.ss[q]? = some i ∧ s.hs[q]? = some (h, ins) ∧ l <+: s.news ∧
       adoptAll h (bef.getD i 0) ins l = some h1 ∧ runOp P L self (seeA ops s.vals o.after.toList tm0) h1 o.op = some (v, h') ∧ s.hs[q + 1]? = some (h', ins ||| bef.getD i 0)))

structure Ext (i : Nat) (s s' : (DS G)) : Prop where
  vals : ∃ l, s'.vals = s.vals ++ l
  hs : ∃ l, s'.hs = s.hs ++ l
  ss : ∃ l, s'.ss = s.ss ++ l ∧ ∀ x ∈ l, i ≤ x
  news : ∃ l, s'.news = s.news ++ l ∧ ∀ x ∈ l, i ≤ x.i
  reads : ∃ l, s'.reads = s.reads ++ l

structure Good (P : Program) (L : Look) (sf : (Job G) → Option (Res G)) (ops : Array Oper) (tm0 : (TT G)) (next : Nat) (bef : List Nat) (H0 : (AH G)) (s : (DS G)) (i : Nat) : Prop where
  len : s.vals.length = i
  cert : ∀ j o, j < i → ops[j]? = some o → OpC P L sf ops tm0 bef s j o
  hss : s.hs.length = s.ss.length + 1
  h0 : s.hs[0]? = some (H0, 0)
  ssl : ∀ j ∈ s.ss, j < i
  sso : ∀ (q r j k : Nat), q < r → s.ss[q]? = some j → s.ss[r]? = some k → (bef.getD k 0).testBit j = true
  mask : ∀ j ∈ s.ss, s.smask.testBit j = true
  newl : ∀ x ∈ s.news, x.i < i ∧ next ≤ x.id ∧ x.id < next + s.news.length
  newd : s.news.Pairwise fun x y => x.i ≠ y.i ∧ x.id ≠ y.id

variable {P : Program} {L : Look} {self : (Job G) → Option (Res G)} {ops : Array Oper} {tm0 : (TT G)} {next : Nat} {bef : List Nat} {H0 : (AH G)}

theorem see_ext {s s' : (DS G)} {i : Nat} (h : ∃ l, s'.vals = s.vals ++ l) (hl : s.vals.length = i) {o : Oper} (hed : ∀ ed ∈ o.after, Region.binds .any ed = true → ed.on < i) :
    seeA ops s'.vals o.after.toList tm0 = seeA ops s.vals o.after.toList tm0 := by
  obtain ⟨l, h⟩ := h
  refine seeA_congr fun ed he hb => ?_
  have := hed ed (by simpa using he) hb
  rw [h, List.getD_eq_getElem?_getD, List.getD_eq_getElem?_getD, List.getElem?_append_left (by omega)]

theorem get_ext {α : Type} {l l' : List α} (h : ∃ k, l' = l ++ k) {i : Nat} {x : α} (hx : l[i]? = some x) : l'[i]? = some x := by
  obtain ⟨k, rfl⟩ := h
  rw [List.getElem?_append_left (List.getElem?_eq_some_iff.1 hx).1]; exact hx

theorem OpC.ext {s s' : (DS G)} {i j : Nat} {o : Oper} (E : Ext i s s') (hl : s.vals.length = i) (hj : j < i) (hed : ∀ ed ∈ o.after, Region.binds .any ed = true → ed.on < j) (h : OpC P L self ops tm0 bef s j o) : OpC P L self ops tm0 bef s' j o := by
  obtain ⟨hab, v, hv, h⟩ := h
  have hss : j ∉ s.ss → j ∉ s'.ss := fun h k => by
    obtain ⟨l, h1, h2⟩ := E.ss
    rw [h1] at k
    rcases List.mem_append.1 k with k | k
    · exact h k
    · have := h2 _ k; omega
  have hnn : (∀ x ∈ s.news, x.i ≠ j) → ∀ x ∈ s'.news, x.i ≠ j := fun h x hx => by
    obtain ⟨l, h1, h2⟩ := E.news
    rw [h1] at hx
    rcases List.mem_append.1 hx with hx | hx
    · exact h x hx
    · have := h2 _ hx; omega
  rw [OpC, see_ext E.vals hl (fun ed he hb => Nat.lt_trans (hed ed he hb) hj)]
  refine ⟨hab, v, get_ext E.vals hv, ?_⟩
  rcases h with ⟨h1, h2, h3, h4⟩ | ⟨h1, h2, h3, h4⟩ | ⟨h1, h2, h3, h4⟩ | ⟨h1, h2, x, h3, h4⟩ | ⟨h1, h2, q, h, ins, h1', h', l, h3, h4, h5, h6, h7, h8⟩
  · exact .inl ⟨h1, h2, hss h3, hnn h4⟩
  · exact .inr (.inl ⟨h1, h2, hss h3, hnn h4⟩)
  · obtain ⟨l, hl⟩ := E.reads
    exact .inr (.inr (.inl ⟨h1, by rw [hl]; exact List.mem_append_left _ h2, hss h3, hnn h4⟩))
  · obtain ⟨l, hl, _⟩ := E.news
    exact .inr (.inr (.inr (.inl ⟨h1, hss h2, x, by rw [hl]; exact List.mem_append_left _ h3, h4⟩)))
  · obtain ⟨m, hm, _⟩ := E.news
    refine .inr (.inr (.inr (.inr ⟨h1, hnn h2, q, h, ins, h1', h', l, get_ext ?_ h3, get_ext E.hs h4, ?_, h6, h7, get_ext E.hs h8⟩)))
    · obtain ⟨k, hk, _⟩ := E.ss; exact ⟨k, hk⟩
    · rw [hm]; exact h5.trans (List.prefix_append _ _)

theorem lastD_spec {l : List ((AH G) × Nat)} {x : (AH G) × Nat} (h : lastD l = some x) : ∃ q, l.length = q + 1 ∧ l[q]? = some x := by
  unfold lastD at h
  cases l with
  | nil => simp at h
  | cons a r => exact ⟨r.length, by simp, by rw [List.getLast?_eq_getElem?] at h; simpa using h⟩

theorem oneD_sound {i : Nat} {o : Oper} {s s' : (DS G)} (ho : ops[i]? = some o) (hed : ∀ (j : Nat) (p : Oper), ops[j]? = some p → ∀ ed ∈ p.after, Region.binds .any ed = true → ed.on < j)
    (GD : Good P L self ops tm0 next bef H0 s i) (h : oneD P L self ops tm0 next i o (bef.getD i 0) s = some s') : Good P L self ops tm0 next bef H0 s' (i + 1) := by
  have nss : i ∉ s.ss := fun k => by have := GD.ssl _ k; omega
  have nnn : ∀ x ∈ s.news, x.i ≠ i := fun x hx => by have := (GD.newl x hx).1; omega
  -- what stays
  have fin : ∀ {s' : (DS G)} {v : (AV G)}, s'.vals = s.vals ++ [v] → Ext i s s' → (OpC P L self ops tm0 bef s' i o) → s'.hs.length = s'.ss.length + 1 → s'.hs[0]? = some (H0, 0) → (∀ j ∈ s'.ss, j < i + 1) →
      (∀ (q r j k : Nat), q < r → s'.ss[q]? = some j → s'.ss[r]? = some k → (bef.getD k 0).testBit j = true) → (∀ j ∈ s'.ss, s'.smask.testBit j = true) → (∀ x ∈ s'.news, x.i < i + 1 ∧ next ≤ x.id ∧ x.id < next + s'.news.length) →
      (s'.news.Pairwise fun x y => x.i ≠ y.i ∧ x.id ≠ y.id) → Good P L self ops tm0 next bef H0 s' (i + 1) := by
    intro s' v hv E hC a1 a2 a3 a4 a5 a6 a7
    refine ⟨by rw [hv]; simp [GD.len], fun j p hj hp => ?_, a1, a2, a3, a4, a5, a6, a7⟩
    rcases Nat.lt_or_ge j i with hlt | hge
    · exact (GD.cert j p hlt hp).ext E GD.len hlt (hed j p hp)
    · have : j = i := by omega
      subst this
      rw [ho] at hp; cases hp
      exact hC
  have see : ∀ {s' : (DS G)} {v : (AV G)}, s'.vals = s.vals ++ [v] → seeA ops s'.vals o.after.toList tm0 = seeA ops s.vals o.after.toList tm0 := fun hv => see_ext ⟨_, hv⟩ GD.len (hed i o ho)
  have at_ : ∀ {s' : (DS G)} {v : (AV G)}, s'.vals = s.vals ++ [v] → s'.vals[i]? = some v := fun hv => by rw [hv]; simp [← GD.len]
  have calm : ∀ {s' : (DS G)} {v : (AV G)}, s' = { s with vals := s.vals ++ [v] } → OpC P L self ops tm0 bef s' i o → Good P L self ops tm0 next bef H0 s' (i + 1) := by
    intro s' v hs' hC
    subst hs'
    exact fin rfl ⟨⟨_, rfl⟩, ⟨[], by simp⟩, ⟨[], by simp, by simp⟩, ⟨[], by simp, by simp⟩, ⟨[], by simp⟩⟩ hC GD.hss GD.h0 (fun j hj => Nat.lt_succ_of_lt (GD.ssl j hj)) GD.sso GD.mask
      (fun x hx => ⟨Nat.lt_succ_of_lt (GD.newl x hx).1, (GD.newl x hx).2⟩) GD.newd
  unfold oneD at h
  simp only at h
  split at h
  · cases h
  rename_i hab
  split at h
  · rename_i hw
    cases h
    refine calm rfl ⟨by rw [see rfl]; exact hab, _, at_ rfl, .inl ⟨?_, rfl, nss, nnn⟩⟩
    rw [see rfl]; exact hw
  · rename_i hw
    split at h
    · obtain ⟨v, hp, hq⟩ := Option.map_eq_some_iff.1 h
      subst hq
      refine calm rfl ⟨by rw [see rfl]; exact hab, _, at_ rfl, .inr (.inl ⟨?_, ?_, nss, nnn⟩)⟩
      · rw [see rfl]; exact hw
      · rw [see rfl]; exact hp
    · split at h
      · split at h
        · obtain ⟨v, hp, hq⟩ := Option.map_eq_some_iff.1 h
          subst hq
          refine fin rfl ⟨⟨_, rfl⟩, ⟨[], by simp⟩, ⟨[], by simp, by simp⟩, ⟨[], by simp, by simp⟩, ⟨_, rfl⟩⟩ ⟨by rw [see (v := v) rfl]; exact hab, _, at_ rfl, .inr (.inr (.inl ⟨?_, ?_, nss, nnn⟩))⟩ GD.hss GD.h0 (fun j hj => Nat.lt_succ_of_lt (GD.ssl j hj)) GD.sso GD.mask
            (fun x hx => ⟨Nat.lt_succ_of_lt (GD.newl x hx).1, (GD.newl x hx).2⟩) GD.newd
          · rw [see rfl]; exact hw
          · show (i, o.op, seeA ops (s.vals ++ [v]) o.after.toList tm0) ∈ s.reads ++ _
            have e := see (s' := { s with vals := s.vals ++ [v] }) (v := v) rfl
            simp only at e
            rw [e]; simp
        · cases h
      · cases h
    · obtain ⟨⟨kk, vs⟩, hp, hq⟩ := Option.map_eq_some_iff.1 h
      subst hq
      refine fin rfl ⟨⟨_, rfl⟩, ⟨[], by simp⟩, ⟨[], by simp, by simp⟩, ⟨_, rfl, by simp⟩, ⟨[], by simp⟩⟩ ⟨by rw [see (v := newV kk (next + s.news.length)) rfl]; exact hab, _, at_ rfl, .inr (.inr (.inr (.inl ⟨?_, nss, ⟨i, next + s.news.length, vs⟩, by simp, rfl, kk, ?_, rfl⟩)))⟩ GD.hss GD.h0 (fun j hj => Nat.lt_succ_of_lt (GD.ssl j hj)) GD.sso GD.mask ?_ ?_
      · rw [see rfl]; exact hw
      · rw [see rfl]; exact hp
      · intro x hx
        simp only [List.length_append, List.length_singleton]
        rcases List.mem_append.1 hx with hx | hx
        · have := GD.newl x hx; omega
        · simp at hx; subst hx; simp only; omega
      · refine List.pairwise_append.2 ⟨GD.newd, by simp, fun x hx y hy => ?_⟩
        simp at hy; subst hy
        have := GD.newl x hx
        simp only; omega
    · split at h
      · rename_i hmask
        split at h
        · rename_i hh ins hlast
          split at h
          · rename_i h1 had
            split at h
            · rename_i v h' hrun
              cases h
              obtain ⟨q, hq1, hq2⟩ := lastD_spec hlast
              have hssl : s.ss.length = q := by have := GD.hss; omega
              refine fin rfl ⟨⟨_, rfl⟩, ⟨_, rfl⟩, ⟨_, rfl, by simp⟩, ⟨[], by simp, by simp⟩, ⟨[], by simp⟩⟩
                ⟨by rw [see (v := v) rfl]; exact hab, _, at_ rfl, .inr (.inr (.inr (.inr ⟨?_, nnn, q, hh, ins, h1, h', s.news, ?_, ?_, List.prefix_refl _, had, ?_, ?_⟩)))⟩ ?_ ?_ ?_ ?_ ?_
                (fun x hx => ⟨Nat.lt_succ_of_lt (GD.newl x hx).1, (GD.newl x hx).2⟩) GD.newd
              · rw [see rfl]; exact hw
              · simp [← hssl]
              · exact get_ext ⟨_, rfl⟩ hq2
              · rw [see rfl]; exact hrun
              · simp [← hq1]
              · simp [GD.hss]
              · exact get_ext ⟨_, rfl⟩ GD.h0
              · intro j hj
                rcases List.mem_append.1 hj with hj | hj
                · exact Nat.lt_succ_of_lt (GD.ssl j hj)
                · simp at hj; omega
              · intro q' r j k hqr hj hk
                rcases Nat.lt_or_ge r s.ss.length with hr | hr
                · rw [List.getElem?_append_left hr] at hk
                  rw [List.getElem?_append_left (by omega)] at hj
                  exact GD.sso q' r j k hqr hj hk
                · have hr' : r = s.ss.length := by
                    have := (List.getElem?_eq_some_iff.1 hk).1
                    simp at this; omega
                  subst hr'
                  simp at hk; subst hk
                  rw [List.getElem?_append_left hqr] at hj
                  have hm := GD.mask j (List.mem_of_getElem? hj)
                  have := congrArg (fun m => m.testBit j) hmask
                  simp only [Nat.testBit_and, hm, Bool.true_and] at this
                  exact this
              · intro j hj
                simp only [Nat.testBit_or, Bool.or_eq_true]
                rcases List.mem_append.1 hj with hj | hj
                · exact .inl (GD.mask j hj)
                · simp at hj; subst hj
                  right
                  rw [Nat.testBit_shiftLeft]
                  simp
            · cases h
          · cases h
        · cases h
      · cases h
  · cases h

theorem allD_sound (hed : ∀ (j : Nat) (p : Oper), ops[j]? = some p → ∀ ed ∈ p.after, Region.binds .any ed = true → ed.on < j) : ∀ {r : List Oper} {bs : List Nat} {i : Nat} {s s' : (DS G)}, allD P L self ops tm0 next r bs i s = some s' →
    (∀ (k : Nat) (o : Oper), r[k]? = some o → ops[i + k]? = some o) → (∀ (k b : Nat), bs[k]? = some b → bef.getD (i + k) 0 = b) → Good P L self ops tm0 next bef H0 s i → Good P L self ops tm0 next bef H0 s' (i + r.length)
  | [], bs, i, s, s', h, _, _, GD => by
    unfold allD at h; cases h; exact GD
  | o :: r, [], i, s, s', h, _, _, GD => by
    unfold allD at h; cases h
  | o :: r, b :: bs, i, s, s', h, ho, hb, GD => by
    unfold allD at h
    split at h
    · rename_i s1 h1
      have hb0 := hb 0 b (by simp)
      subst hb0
      have G1 := oneD_sound (ho 0 o (by simp)) hed GD h1
      have := allD_sound hed (i := i + 1) h (fun k p hk => by
        have := ho (k + 1) p (by simpa using hk)
        have e : i + 1 + k = i + (k + 1) := by omega
        rw [e]; exact this) (fun k b hk => by
        have := hb (k + 1) b (by simpa using hk)
        have e : i + 1 + k = i + (k + 1) := by omega
        rw [e]; exact this) G1
      have e : i + (o :: r).length = i + 1 + r.length := by simp; omega
      rw [e]; exact this
    · cases h
end
end Go.Ev
end

noncomputable section
namespace Go.Ev
variable {G : Ctx}
open Go.RowKit

theorem news_inj : ∀ {l : List (ANew G)} {x y : (ANew G)}, (l.Pairwise fun x y => x.i ≠ y.i ∧ x.id ≠ y.id) → x ∈ l → y ∈ l → x = y ∨ (x.i ≠ y.i ∧ x.id ≠ y.id)
  | [], x, y, _, hx, _ => by simp at hx
  | z :: l, x, y, hp, hx, hy => by
    have hp' := List.pairwise_cons.1 hp
    rcases List.mem_cons.1 hx with h1 | h1
    · rcases List.mem_cons.1 hy with h2 | h2
      · exact .inl (h1.trans h2.symm)
      · rw [h1]; exact .inr (hp'.1 y h2)
    · rcases List.mem_cons.1 hy with h2 | h2
      · rw [h2]; have := hp'.1 x h1; exact .inr ⟨fun k => this.1 k.symm, fun k => this.2 k.symm⟩
      · exact news_inj hp'.2 h1 h2

theorem on_set {listed : Array Bool} {i : Nat} (hi : i < listed.size) (j : Nat) : (listed.setIfInBounds i true).getD j false = true ↔ listed.getD j false = true ∨ j = i := by
  by_cases h : i = j
  · subst h; simp [hi]
  · rw [getD_set_ne false h]
    constructor
    · exact .inl
    · rintro (k | rfl)
      · exact k
      · exact absurd rfl h

structure Inv (ops : Array Oper) (s : (DS G)) (e0 : (Env G)) (h0 : (AH G)) (w0 : World) (a0 : Act) (nn : Nat) (listed : Array Bool) (a : Act) (w : World) (e : (Env G)) (p : Nat) (hh : (AH G)) (ins : Nat) : Prop where
  sz : listed.size = ops.size
  clo : Closed ops fun i => listed.getD i false
  hs : s.hs[p]? = some (hh, ins)
  st : St e0 h0 w0 e hh w
  nx : h0.next + nn ≤ hh.next
  pend : ∀ x ∈ s.news, listed.getD x.i false = true → Pend e hh w w0.heap.size ins x
  steps : ∀ (q i : Nat), s.ss[q]? = some i → (listed.getD i false = true ↔ q < p)
  tsz : a.tmps.size = a0.tmps.size
  told : ∀ t : Nat, (∀ (i : Nat) (o : Oper), ops[i]? = some o → listed.getD i false = true → o.dst ≠ some t) → a.tmps[t]? = a0.tmps[t]?
  tnew : ∀ (i : Nat) (o : Oper) (d : Nat) (v : (AV G)) (v' : Value), ops[i]? = some o → listed.getD i false = true → o.dst = some d → s.vals[i]? = some v → a.tmps[d]? = some v' → VR e v v'
  dfs : a.defers = a0.defers
  unb : ∀ x ∈ s.news, listed.getD x.i false = false → e.φ x.id = none
  inj : ∀ x ∈ s.news, ∀ y ∈ s.news, x.i ≠ y.i → ∀ b, e.φ x.id = some (b, 0) → e.φ y.id ≠ some (b, 0)

section
variable {P : Program} {L : Look} {sf : (Job G) → Option (Res G)} {ops : Array Oper} {tm0 : (TT G)} {bef : List Nat} {s : (DS G)} {e0 : (Env G)} {h0 H0 : (AH G)} {w0 : World} {a0 : Act} {nn : Nat} {listed : Array Bool} {a : Act} {w : World} {e : (Env G)} {p : Nat} {hh : (AH G)} {ins : Nat}

def DstsD (ops : Array Oper) : Prop := ∀ (i j : Nat) (oi oj : Oper), ops[i]? = some oi → ops[j]? = some oj → i ≠ j → ∀ d, oi.dst = some d → oj.dst ≠ some d

theorem Inv.adv (I : Inv ops s e0 h0 w0 a0 nn listed a w e p hh ins) (hD : DstsD ops) {i : Nat} {o : Oper} (hi : i ∈ Region.ready .any ops listed) (ho : ops[i]? = some o)
    {e' : (Env G)} {w' : World} {p' : Nat} {hh' : (AH G)} {ins' : Nat} (le : e.le e') {v : (AV G)} {v' : Value} (hv : s.vals[i]? = some v) (hr : VR e' v v')
    (hs' : s.hs[p']? = some (hh', ins')) (st' : St e0 h0 w0 e' hh' w') (nx' : h0.next + nn ≤ hh'.next)
    (pend' : ∀ x ∈ s.news, listed.getD x.i false = true ∨ x.i = i → Pend e' hh' w' w0.heap.size ins' x)
    (steps' : ∀ (q j : Nat), s.ss[q]? = some j → (listed.getD j false = true ∨ j = i ↔ q < p'))
    (unb' : ∀ x ∈ s.news, x.i ≠ i → listed.getD x.i false = false → e'.φ x.id = none)
    (inj' : ∀ x ∈ s.news, ∀ y ∈ s.news, x.i ≠ y.i → ∀ b, e'.φ x.id = some (b, 0) → e'.φ y.id ≠ some (b, 0)) :
    Inv ops s e0 h0 w0 a0 nn (listed.setIfInBounds i true) (a.put o.dst v') w' e' p' hh' ins' := by
  obtain ⟨hun, o', ho', hed⟩ := mem_ready.1 hi
  rw [ho] at ho'; cases ho'
  have hlt : i < listed.size := by rw [I.sz]; exact (Array.getElem?_eq_some_iff.1 ho).1
  have on := on_set hlt
  refine ⟨by simp [I.sz], ?_, hs', st', nx', fun x hx k => pend' x hx ((on _).1 k), fun q j hq => by rw [on]; exact steps' q j hq, ?_, ?_, ?_, ?_, ?_, inj'⟩
  · intro j oj hoj hj ed he hb
    simp only at hj ⊢
    rw [on] at hj ⊢
    rcases hj with hj | rfl
    · exact .inl (I.clo j oj hoj hj ed he hb)
    · rw [ho] at hoj; cases hoj; exact .inl (hed ed he hb)
  · rw [← I.tsz]; cases o.dst <;> simp [Act.put]
  · intro t ht
    have h1 := ht i o ho ((on i).2 (.inr rfl))
    rw [← I.told t (fun j oj hoj hj => ht j oj hoj ((on j).2 (.inl hj)))]
    cases hd : o.dst with
    | none => rfl
    | some d =>
      have : d ≠ t := fun k => h1 (k ▸ hd)
      simp [Act.put, Array.getElem?_setIfInBounds_ne this]
  · intro j oj d u u' hoj hj hdj hu hu'
    rw [on] at hj
    by_cases hji : j = i
    · subst hji
      rw [ho] at hoj; cases hoj
      rw [hv] at hu; cases hu
      rw [hdj] at hu'
      have hin : d < a.tmps.size := by have := (Array.getElem?_eq_some_iff.1 hu').1; simpa [Act.put] using this
      simp [Act.put, hin] at hu'
      subst hu'; exact hr
    · have hj' := hj.resolve_right hji
      refine (I.tnew j oj d u u' hoj hj' hdj hu ?_).mono le
      cases hd : o.dst with
      | none => rw [hd] at hu'; exact hu'
      | some d' =>
        have : d' ≠ d := fun k => hD i j o oj ho hoj (Ne.symm hji) d' hd (k ▸ hdj)
        rw [hd] at hu'
        simpa [Act.put, Array.getElem?_setIfInBounds_ne this] using hu'
  · rw [← I.dfs]; cases o.dst <;> rfl
  · intro x hx k
    have hne : ¬ (listed.getD x.i false = true ∨ x.i = i) := fun h => by rw [(on x.i).2 h] at k; cases k
    refine unb' x hx (fun h => hne (.inr h)) ?_
    cases h : listed.getD x.i false with
    | false => rfl
    | true => exact absurd (.inl h) hne

theorem looks_tmp {o : Oper} {t : Nat} (h : Operand.tmp t ∈ o.op.operands) : t ∈ o.looksAt ops := by
  unfold Oper.looksAt
  exact List.mem_append_left _ (List.mem_filterMap.2 ⟨.tmp t, by simpa using h, rfl⟩)

theorem looks_guard {o : Oper} {g : Nat} {b : Bool} {t : Nat} (h : o.guard = some (g, b)) (hd : (ops[g]?).bind (·.dst) = some t) : t ∈ o.looksAt ops := by
  unfold Oper.looksAt
  refine List.mem_append_right _ ?_
  rw [h]; simp only [hd]; simp

theorem Inv.see (I : Inv ops s e0 h0 w0 a0 nn listed a w e p hh ins) (hB : BefOK ops bef) (hE : EdgesOK ops) (hT : TRs e0 tm0 a0.tmps) (hl : s.vals.length = ops.size) {i : Nat} {o : Oper} (hi : i ∈ Region.ready .any ops listed) (ho : ops[i]? = some o)
    (hSee : ∀ t ∈ o.looksAt ops, seesOk ops bef i o t 0 ops.toList = true) :
    ∃ a' : Act, TRs e (seeA ops s.vals o.after.toList tm0) a'.tmps ∧ (∀ x ∈ o.op.operands, a.eval x = a'.eval x) ∧ Region.wanted o (yielded ops a'.tmps) = Region.wanted o (yielded ops a.tmps) := by
  obtain ⟨hun, o', ho', hed⟩ := mem_ready.1 hi
  rw [ho] at ho'; cases ho'
  have hlt : i < listed.size := by rw [I.sz]; exact (Array.getElem?_eq_some_iff.1 ho).1
  have hunf : listed.getD i false = false := by
    simp only [Array.getD_eq_getD_getElem?, Array.getElem?_eq_getElem hlt, Option.getD_some] at hun ⊢; exact hun
  obtain ⟨t', r1, r2, r3, r4⟩ := see_sound (e := e) (ops := ops) (vals := s.vals) (c := a.tmps) (l := o.after.toList) (tm := tm0) (t := a0.tmps) (hT.mono I.st.le) I.tsz (fun ed he hb d hd v' hv' => by
    have hon := hed ed (by simpa using he) hb
    cases hoj : ops[ed.on]? with
    | none => rw [hoj] at hd; cases hd
    | some oj =>
      rw [hoj] at hd
      have hlt' : ed.on < s.vals.length := by rw [hl]; exact (Array.getElem?_eq_some_iff.1 hoj).1
      refine I.tnew ed.on oj d _ v' hoj hon hd ?_ hv'
      simp [hlt'])
  have key : ∀ t ∈ o.looksAt ops, t'[t]? = a.tmps[t]? := fun t ht => by
    by_cases hN : Named ops o.after.toList t
    · exact r3 t hN
    · rw [r4 t hN]
      refine (I.told t fun j oj hoj hj hdj => ?_).symm
      have := seesOk_spec (k := j) (p := oj) (hSee t ht) (by simpa using hoj) hdj
      rw [Nat.zero_add] at this
      rcases this with rfl | hbit | ⟨ed, he, hb, hon⟩
      · rw [hunf] at hj; cases hj
      · have := Closed.bits hB hE I.clo (j + 1) j oj (by omega) hoj (I.clo j oj hoj hj) i hbit
        have this : listed.getD i false = true := this
        rw [hunf] at this; cases this
      · exact hN ⟨ed, by simpa using he, hb, by rw [hon, hoj]; exact hdj⟩
  refine ⟨{ a with tmps := t' }, r1, fun x hx => ?_, ?_⟩
  · cases x with
    | tmp t =>
      have := key t (looks_tmp hx)
      simp only [Act.eval, Array.getD_eq_getD_getElem?, this]
    | _ => rfl
  · unfold Region.wanted
    cases hg : o.guard with
    | none => rfl
    | some g =>
      obtain ⟨g, b⟩ := g
      simp only
      congr 1
      unfold yielded
      cases hd : (ops[g]?).bind (·.dst) with
      | none => rfl
      | some t =>
        have := key t (looks_guard hg hd)
        simp only [Option.bind_some, this]
end
end Go.Ev
end

noncomputable section
namespace Go.Ev
variable {G : Ctx}
open Go.RowKit
section
variable {P : Program} {L : Look} {sf : (Job G) → Option (Res G)} {ops : Array Oper} {tm0 : (TT G)} {bef : List Nat} {s : (DS G)} {e0 : (Env G)} {h0 H0 : (AH G)} {w0 : World} {a0 : Act} {nn : Nat} {listed : Array Bool} {a : Act} {w : World} {e : (Env G)} {p : Nat} {hh : (AH G)} {ins : Nat}
variable {F0 : Fence} {rp : Bool} {F : Fence} {rd : Option Nat} {n : Nat} {Q : Exit → Act → World → Prop} {K : Act → World → Prop}

theorem mono_adv {b0 : Nat} {x : (ANew G)} {h : (AH G)} (hp : Pend e h w b0 ins x) : Pend e h w b0 ins x := hp

theorem draw_op (hFB : FB P L F0 rp) (hs : SelfOK P F0 sf) (GD : Good P L sf ops tm0 h0.next bef H0 s ops.size) (hB : BefOK ops bef) (hE : EdgesOK ops) (hD : DstsD ops)
    (hSee : ∀ (i : Nat) (o : Oper), ops[i]? = some o → ∀ t ∈ o.looksAt ops, seesOk ops bef i o t 0 ops.toList = true) (hR : readsOk P bef s s.reads = true) (hN : s.news.length ≤ nn)
    (hF0 : FOK F0 F rd e0) (hT : TRs e0 tm0 a0.tmps) (I : Inv ops s e0 h0 w0 a0 nn listed a w e p hh ins) {i : Nat} (hi : i ∈ Region.ready .any ops listed)
    (hK : ∀ a' w' e' p' hh' ins', Inv ops s e0 h0 w0 a0 nn (listed.setIfInBounds i true) a' w' e' p' hh' ins' → K a' w') : wpOpIn F n P ops Q i K a w := by
  obtain ⟨hun, o, ho, hed⟩ := mem_ready.1 hi
  have hlt0 : i < ops.size := (Array.getElem?_eq_some_iff.1 ho).1
  have hlt : i < listed.size := by rw [I.sz]; exact hlt0
  have hunf : listed.getD i false = false := by
    simp only [Array.getD_eq_getD_getElem?, Array.getElem?_eq_getElem hlt, Option.getD_some] at hun ⊢; exact hun
  have hF : FOK F0 F rd e := hF0.mono I.st.le
  have H : HR e hh w := I.st.hr
  -- what comes before has been listed
  have bits : ∀ j, (bef.getD i 0).testBit j = true → listed.getD j false = true := Closed.bits hB hE I.clo (i + 1) i o (by omega) ho hed
  have bitsOf : ∀ j oj, ops[j]? = some oj → listed.getD j false = true → ∀ k, (bef.getD j 0).testBit k = true → listed.getD k false = true := fun j oj hoj hj =>
    Closed.bits hB hE I.clo (j + 1) j oj (by omega) hoj (I.clo j oj hoj hj)
  obtain ⟨a', hA, hev, hwant⟩ := I.see hB hE hT GD.len hi ho (hSee i o ho)
  obtain ⟨hab, v, hv, hcert⟩ := GD.cert i o hlt0 ho
  have habs : ∀ f, o.about P w a.eval = some f → F.fn f := fun f hf => by
    rw [about_congr o w hev] at hf
    exact hF.fn hFB (aboutA_sound hFB.look hA hab hf)
  have pw : s.news.Pairwise (fun x y => x.i ≠ y.i) := GD.newd.imp (fun h => h.1)
  have idlt : ∀ x ∈ s.news, x.id < hh.next := fun x hx => by have := GD.newl x hx; have := I.nx; omega
  -- a step that changes no memory
  have still : ∀ {v' : Value}, VR e v v' → i ∉ s.ss → (∀ x ∈ s.news, x.i ≠ i) → K (a.put o.dst v') w := fun hr h1 h2 =>
    hK _ _ _ _ _ _ (I.adv hD hi ho (.refl e) hv hr I.hs I.st I.nx (fun x hx k => I.pend x hx (k.resolve_right (h2 x hx)))
      (fun q j hq => by
        rw [← I.steps q j hq]
        constructor
        · rintro (k | rfl)
          · exact k
          · exact absurd (List.mem_of_getElem? hq) h1
        · exact .inl)
      (fun x hx _ k => I.unb x hx k) I.inj)
  unfold wpOpIn
  simp only [ho]
  rcases hcert with ⟨hw, rfl, h1, h2⟩ | ⟨hw, hp, h1, h2⟩ | ⟨hw, hp, h1, h2⟩ | ⟨hw, h1, x, hx, hxi, kk, hnew, rfl⟩ | ⟨hw, h2, q, hq, qins, qh1, h', l, k1, k2, k3, k4, k5, k6⟩
  · have hw' := wantA_sound (aa := ⟨_, []⟩) (a := a') hA hw
    rw [hwant] at hw'
    rw [hw']
    simp only [Bool.false_eq_true, if_false]
    exact ⟨habs, still VR_undef h1 h2⟩
  · have hw' := wantA_sound (aa := ⟨_, []⟩) (a := a') hA hw
    rw [hwant] at hw'
    rw [hw']
    simp only [if_true]
    obtain ⟨v', r1, r2⟩ := pureOp_sound hA hp
    have hsel : ∀ cs b, o.op ≠ .select cs b := fun cs b hc => by rw [hc] at hp; simp [pureOp] at hp
    have hdef : ∀ c, o.op ≠ .defer c := fun c hc => by rw [hc] at hp; simp [pureOp] at hp
    refine ⟨habs, ?_⟩
    rw [semAt_plain hdef, execOp_congr o hsel hev, r2 w]
    exact still r1 h1 h2
  · have hw' := wantA_sound (aa := ⟨_, []⟩) (a := a') hA hw
    rw [hwant] at hw'
    rw [hw']
    simp only [if_true]
    have hra := readsOk_spec hR hp
    obtain ⟨g1, g2, g3⟩ := readsAt_spec (q := p) hra I.hs (by
      rw [Nat.zero_add]
      refine maybeAt_of fun q j hq => ?_
      rw [Nat.zero_add]
      refine ⟨fun k => (I.steps q j hq).1 (bits j k), fun k => ?_⟩
      rcases Nat.lt_or_ge q p with hqp | hqp
      · have hj := (I.steps q j hq).2 hqp
        have hjlt : j < ops.size := GD.ssl j (List.mem_of_getElem? hq)
        have := bitsOf j ops[j] (by simp [hjlt]) hj i k
        rw [hunf] at this; cases this
      · exact hqp)
    obtain ⟨S1, _, _⟩ := adoptAll_sound g2 I.st idlt (fun x hx k => I.pend x hx (bits _ k)) I.inj pw
    have hvv : s.vals.getD i undefA = v := by rw [List.getD_eq_getElem?_getD, hv]; rfl
    rw [hvv] at g3
    obtain ⟨v', r1, r2⟩ := readOp_sound (o := o) S1.hr hA g3
    have hsel : ∀ cs b, o.op ≠ .select cs b := fun cs b hc => by rw [hc] at g3; simp [readOp] at g3
    have hdef : ∀ c, o.op ≠ .defer c := fun c hc => by rw [hc] at g3; simp [readOp] at g3
    refine ⟨habs, ?_⟩
    rw [semAt_plain hdef, execOp_congr o hsel hev, r2]
    exact still r1 h1 h2
  · have hw' := wantA_sound (aa := ⟨_, []⟩) (a := a') hA hw
    rw [hwant] at hw'
    rw [hw']
    simp only [if_true]
    obtain ⟨c, t, r1, r2, r3, hdef⟩ := newA_sound (P := P) (e := e) hA hnew w
    refine ⟨habs, ?_⟩
    rw [semAt_plain hdef, execOp_congr o r3 hev, r1]
    have hφ : e.φ x.id = none := I.unb x hx (by rw [hxi]; exact hunf)
    have hle : e.le (e.bind x.id w.heap.size c.size) := Env.le_bind hφ
    have hx1 := GD.newl x hx
    have S1 := I.st.early (r := c.size) hφ hx1.2.1 (idlt x hx) (.cells c t)
    have same : ∀ y ∈ s.news, y.i ≠ i → (e.bind x.id w.heap.size c.size).φ y.id = e.φ y.id := fun y hy hne => by
      rcases news_inj GD.newd hx hy with rfl | h
      · exact absurd hxi hne
      · exact Env.bind_other _ _ _ (Ne.symm h.2)
    have blk : ∀ y ∈ s.news, y.i ≠ i → ∀ b, e.φ y.id = some (b, 0) → b < w.heap.size := fun y hy hne b hb => by
      cases hl : listed.getD y.i false with
      | false => rw [I.unb y hy hl] at hb; cases hb
      | true => obtain ⟨b', q1, _, q2, _⟩ := I.pend y hy hl; rw [q1] at hb; cases hb; exact q2
    refine hK _ _ _ _ _ _ (I.adv hD hi ho hle hv ?_ I.hs S1 I.nx ?_ ?_ ?_ ?_)
    · cases kk with
      | none => simp only [newV, newC, VR]; exact ⟨_, _, Env.bind_same _ _ _ _, rfl⟩
      | some l => simp only [newV, newC, VR]; exact ⟨_, _, l, Env.bind_same _ _ _ _, rfl, Nat.le_refl _, fun _ => rfl, by simp⟩
    · intro y hy k
      by_cases hyi : y.i = i
      · have : x = y := by
          rcases news_inj GD.newd hx hy with h | h
          · exact h
          · exact absurd (hxi.trans hyi.symm) h.1
        subst this
        refine ⟨w.heap.size, Env.bind_same _ _ _ _, I.st.size, by simp, fun _ => ⟨⟨w.heap.size, Env.bind_same _ _ _ _, H.base, c, t, heap_alloc_new w _, by rw [Env.bind_room]; exact Nat.le_refl _, fun j z hz => ?_⟩, fun hown => ?_⟩⟩
        · obtain ⟨u, u1, u2⟩ := r2 j z hz
          exact ⟨u, u1, u2.mono hle⟩
        · exact absurd (H.owned_lt (bind_owned H hφ hown)).1 (Nat.lt_irrefl _)
      · obtain ⟨b, q1, q2, q3, q4⟩ := I.pend y hy (k.resolve_right hyi)
        refine ⟨b, by rw [same y hy hyi]; exact q1, q2, by simp; omega, fun hin => ⟨(q4 hin).1.alloc _ hle H.base, fun hown => (q4 hin).2 (bind_owned H hφ hown)⟩⟩
    · intro q j hq
      rw [← I.steps q j hq]
      constructor
      · rintro (k | rfl)
        · exact k
        · exact absurd (List.mem_of_getElem? hq) h1
      · exact .inl
    · intro y hy hne k
      rw [same y hy hne]; exact I.unb y hy k
    · intro y hy z hz hyz b hb
      by_cases hyi : y.i = i
      · have hzi : z.i ≠ i := fun k => hyz (hyi.trans k.symm)
        have : x = y := by
          rcases news_inj GD.newd hx hy with h | h
          · exact h
          · exact absurd (hxi.trans hyi.symm) h.1
        subst this
        rw [Env.bind_same] at hb; cases hb
        rw [same z hz hzi]
        intro k
        exact absurd (blk z hz hzi _ k) (Nat.lt_irrefl _)
      · rw [same y hy hyi] at hb
        by_cases hzi : z.i = i
        · have : x = z := by
            rcases news_inj GD.newd hx hz with h | h
            · exact h
            · exact absurd (hxi.trans hzi.symm) h.1
          subst this
          rw [Env.bind_same]
          intro k; cases k
          exact absurd (blk y hy hyi _ hb) (Nat.lt_irrefl _)
        · rw [same z hz hzi]; exact I.inj y hy z hz hyz b hb
  · have hw' := wantA_sound (aa := ⟨_, []⟩) (a := a') hA hw
    rw [hwant] at hw'
    rw [hw']
    simp only [if_true]
    -- it is the next step
    have hqp : q = p := by
      have n1 : ¬ q < p := fun k => by have := (I.steps q i k1).2 k; rw [hunf] at this; cases this
      have n2 : ¬ p < q := fun k => by
        have hpl : p < s.ss.length := Nat.lt_trans k (List.getElem?_eq_some_iff.1 k1).1
        have hj : s.ss[p]? = some s.ss[p] := by simp [hpl]
        have := (I.steps p _ hj).1 (bits _ (GD.sso p q _ i k hj k1))
        omega
      omega
    subst hqp
    have e1 : (hq, qins) = (hh, ins) := Option.some.inj (k2.symm.trans I.hs)
    cases e1
    have hsub : ∀ x ∈ l, x ∈ s.news := fun x hx => k3.subset hx
    obtain ⟨S1, N1, O1⟩ := adoptAll_sound k4 I.st (fun x hx => idlt x (hsub x hx)) (fun x hx k => I.pend x (hsub x hx) (bits _ k)) (fun x hx y hy => I.inj x (hsub x hx) y (hsub y hy)) (pw.sublist k3.sublist)
    refine runOp_sound hFB hs S1.hr hA hF hab hev k5 (fun e2 w2 v' S2 hr => ?_)
    have nofφ : ∀ x ∈ s.news, e2.φ x.id = e.φ x.id := fun x hx => by
      cases hl : listed.getD x.i false with
      | false =>
        have h3 := I.unb x hx hl
        rw [h3]; exact S2.nob x.id (by rw [N1]; exact idlt x hx) h3
      | true => obtain ⟨b, q1, _⟩ := I.pend x hx hl; rw [q1]; exact S2.le.φ _ _ q1
    refine hK _ _ _ _ _ _ (I.adv hD hi ho S2.le hv hr k6 (S1.trans S2) ?_ ?_ ?_ ?_ ?_)
    · have := I.nx; have := S2.next; omega
    · intro x hx k
      have hlx := k.resolve_right (h2 x hx)
      refine (I.pend x hx hlx).step (fun hb => ?_) (fun hb b hφ hown => ?_) S2
      · simp only [Nat.testBit_or, Bool.or_eq_false_iff] at hb; exact hb.1
      · simp only [Nat.testBit_or, Bool.or_eq_false_iff] at hb
        rcases O1 b hown with h | ⟨y, hy, y1, y2, y3⟩
        · exact h
        · refine absurd y3 (I.inj x hx y (hsub y hy) (fun k => ?_) b hφ)
          rw [← k, hb.2] at y1; cases y1
    · intro r j hr'
      constructor
      · rintro (k | rfl)
        · have := (I.steps r j hr').1 k; omega
        · rcases Nat.lt_trichotomy r q with h | h | h
          · omega
          · omega
          · have := bits _ (GD.sso q r _ _ h k1 hr')
            rw [hunf] at this; cases this
      · intro k
        rcases Nat.lt_or_ge r q with h | h
        · exact .inl ((I.steps r j hr').2 h)
        · have : r = q := by omega
          subst this
          exact .inr (Option.some.inj (hr'.symm.trans k1))
    · intro x hx _ k
      rw [nofφ x hx]; exact I.unb x hx k
    · intro x hx y hy hxy b hb
      rw [nofφ x hx] at hb
      rw [nofφ y hy]; exact I.inj x hx y hy hxy b hb
end
end Go.Ev
end

noncomputable section
namespace Go.Ev
variable {G : Ctx}
open Go.RowKit
section
variable {P : Program} {L : Look} {sf : (Job G) → Option (Res G)} {ops : Array Oper} {tm0 : (TT G)} {bef : List Nat} {s : (DS G)} {e0 : (Env G)} {h0 H0 : (AH G)} {w0 : World} {a0 : Act} {nn : Nat}
variable {F0 : Fence} {rp : Bool} {F : Fence} {rd : Option Nat} {n : Nat} {Q : Exit → Act → World → Prop}

theorem draw_any (hFB : FB P L F0 rp) (hs : SelfOK P F0 sf) (GD : Good P L sf ops tm0 h0.next bef H0 s ops.size) (hB : BefOK ops bef) (hE : EdgesOK ops) (hD : DstsD ops)
    (hSee : ∀ (i : Nat) (o : Oper), ops[i]? = some o → ∀ t ∈ o.looksAt ops, seesOk ops bef i o t 0 ops.toList = true) (hR : readsOk P bef s s.reads = true) (hN : s.news.length ≤ nn)
    (hF0 : FOK F0 F rd e0) (hT : TRs e0 tm0 a0.tmps)
    (hQ : ∀ listed a w e p hh ins, Inv ops s e0 h0 w0 a0 nn listed a w e p hh ins → Region.ready .any ops listed = [] → Q .normal a w) :
    ∀ (fuel : Nat) (listed : Array Bool) (a : Act) (w : World) (e : (Env G)) (p : Nat) (hh : (AH G)) (ins : Nat), Inv ops s e0 h0 w0 a0 nn listed a w e p hh ins → listed.toList.count false ≤ fuel → wpAnyIn F n P .any ops Q fuel listed a w := by
  have lt : ∀ {listed : Array Bool} {i : Nat}, i ∈ Region.ready .any ops listed → listed.size = ops.size → ∃ h : i < listed.toList.length, listed.toList[i] = false := by
    intro listed i hi hsz
    obtain ⟨hun, o, ho, _⟩ := mem_ready.1 hi
    have hlt : i < listed.size := by rw [hsz]; exact (Array.getElem?_eq_some_iff.1 ho).1
    refine ⟨by simpa using hlt, ?_⟩
    simp only [Array.getD_eq_getD_getElem?, Array.getElem?_eq_getElem hlt, Option.getD_some] at hun
    simpa using hun
  intro fuel
  induction fuel with
  | zero =>
    intro listed a w e p hh ins I hc
    have hr : Region.ready .any ops listed = [] := by
      cases hr : Region.ready .any ops listed with
      | nil => rfl
      | cons i r =>
        obtain ⟨h1, h2⟩ := lt (i := i) (by rw [hr]; simp) I.sz
        have : 0 < listed.toList.count false := List.count_pos_iff.2 (by rw [← h2]; exact List.getElem_mem h1)
        omega
    exact ⟨hr, hQ _ _ _ _ _ _ _ I hr⟩
  | succ fuel ih =>
    intro listed a w e p hh ins I hc
    refine ⟨fun hr => hQ _ _ _ _ _ _ _ I hr, fun i hi => ?_⟩
    refine draw_op hFB hs GD hB hE hD hSee hR hN hF0 hT I hi (fun a' w' e' p' hh' ins' I' => ih _ _ _ _ _ _ _ I' ?_)
    obtain ⟨h1, h2⟩ := lt hi I.sz
    have hpos : 0 < listed.toList.count false := List.count_pos_iff.2 (by rw [← h2]; exact List.getElem_mem h1)
    rw [Array.toList_setIfInBounds, List.count_set h1, h2]
    have e1 : ((true : Bool) == false) = false := rfl
    have e2 : ((false : Bool) == false) = true := rfl
    rw [e1, e2]
    simp only [if_true, Bool.false_eq_true, if_false]
    omega

theorem all_listed {listed : Array Bool} (hE : EdgesOK ops) (hsz : listed.size = ops.size) (hr : Region.ready .any ops listed = []) : ∀ (m i : Nat), i < m → i < ops.size → listed.getD i false = true
  | 0, i, h, _ => by omega
  | m + 1, i, h, hlt => by
    have ih := all_listed hE hsz hr m
    have hl : i < listed.size := by rw [hsz]; exact hlt
    cases hv : listed.getD i false with
    | true => rfl
    | false =>
      have : i ∈ Region.ready .any ops listed := mem_ready.2 ⟨by
        simp only [Array.getD_eq_getD_getElem?, Array.getElem?_eq_getElem hl, Option.getD_some] at hv ⊢; exact hv, ops[i], by simp [hlt], fun ed he hb => by
        have h1 := hE i ops[i] (by simp [hlt]) ed he hb
        exact ih ed.on (by omega) (by omega)⟩
      rw [hr] at this; cases this

theorem dstsOk_spec : ∀ {l : List Oper} {i j : Nat} {oi oj : Oper}, dstsOk l = true → i < j → l[i]? = some oi → l[j]? = some oj → ∀ d, oi.dst = some d → oj.dst ≠ some d
  | [], i, j, oi, oj, _, _, hi, _ => by simp at hi
  | o :: r, 0, 0, oi, oj, _, hij, _, _ => by omega
  | o :: r, 0, j + 1, oi, oj, hd, _, hi, hj => by
    intro d h1
    simp at hi; subst hi
    simp only [dstsOk, h1, Bool.and_eq_true, List.all_eq_true] at hd
    have := hd.1 oj (List.mem_of_getElem? (by simpa using hj))
    simpa using this
  | o :: r, i + 1, 0, oi, oj, _, hij, _, _ => by omega
  | o :: r, i + 1, j + 1, oi, oj, hd, hij, hi, hj => by
    simp only [dstsOk, Bool.and_eq_true] at hd
    exact dstsOk_spec (i := i) (j := j) hd.2 (by omega) (by simpa using hi) (by simpa using hj)

theorem getD_replicate (m i : Nat) : (Array.replicate m false).getD i false = false := by
  rw [Array.getD_eq_getD_getElem?, Array.getElem?_replicate]
  split <;> rfl

theorem drawA_ok {P : Program} {L : Look} {F0 : Fence} {rp : Bool} (hFB : FB P L F0 rp) : DrawOK (G := G) P F0 (drawA P L) := by
  intro self hs rd ops aa h r id hd
  unfold drawA at hd
  simp only at hd
  split at hd
  · rename_i hc
    simp only [Bool.and_eq_true] at hc
    obtain ⟨⟨hm, hshape⟩, hdsts⟩ := hc
    split at hd
    · rename_i s hall
      split at hd
      · rename_i hro
        simp only [Bool.and_eq_true, decide_eq_true_eq] at hro
        split at hd
        · rename_i hl insl hlast
          split at hd
          · rename_i hf hadopt
            cases hd
            intro e a w F n Q H hA hF hQ
            have hB := befOK ops
            have hsh : ∀ (i : Nat) (o : Oper), ops[i]? = some o → (∀ ed ∈ o.after, Region.binds .any ed = true → ed.on < 0 + i) ∧ ∀ t ∈ o.looksAt ops, seesOk ops (befL ops.toList []) (0 + i) o t 0 ops.toList = true :=
              fun i o ho => shapeOk_spec hshape (by simpa using ho)
            have hE : EdgesOK ops := fun i o ho ed he hb => by have := (hsh i o ho).1 ed he hb; omega
            have hD : DstsD ops := fun i j oi oj hi hj hij d h1 h2 => by
              rcases Nat.lt_or_gt_of_ne hij with k | k
              · exact dstsOk_spec hdsts k (by simpa using hi) (by simpa using hj) d h1 h2
              · exact dstsOk_spec hdsts k (by simpa using hj) (by simpa using hi) d h2 h1
            have G0 : Good P L self ops aa.tmps h.next (befL ops.toList []) { h with next := h.next + countNew ops.toList } ⟨[], [({ h with next := h.next + countNew ops.toList }, 0)], [], 0, [], []⟩ 0 :=
              ⟨rfl, fun j o hj => by omega, rfl, rfl, by simp, by simp, by simp, by simp, by simp⟩
            have GD := allD_sound hE (i := 0) hall (fun k o hk => by simpa using hk) (fun k b hk => by simp [hk]) G0
            have hsz : 0 + ops.toList.length = ops.size := by simp
            rw [hsz] at GD
            have Hr := St.reserve (St.drew H).hr (countNew ops.toList)
            have S0 : St e h w e { h with next := h.next + countNew ops.toList } w.drew := (St.drew H).trans Hr
            refine wpIn_region_any hm ?_
            have hw : ({ w with drawn := w.drawn + 1 } : World) = w.drew := rfl
            rw [hw]
            refine draw_any (w0 := w) (h0 := h) (a0 := a) (nn := countNew ops.toList) hFB hs GD hB hE hD (fun i o ho t ht => by have := (hsh i o ho).2 t ht; simpa using this) hro.1 hro.2 hF hA.tmps ?_
              ops.size (Array.replicate ops.size false) a w.drew e 0 _ 0 ⟨by simp, ?_, GD.h0, S0, Nat.le_refl _, ?_, ?_, rfl, fun t _ => rfl, ?_, rfl, ?_, ?_⟩ (by simp)
            · intro listed a1 w1 e1 p hh ins I hr
              have hal : ∀ i, i < ops.size → listed.getD i false = true := fun i hi => all_listed hE I.sz hr (i + 1) i (by omega) hi
              -- the last heap
              obtain ⟨q, hq1, hq2⟩ := lastD_spec hlast
              have hp : p = q := by
                have h1 : p < s.hs.length := (List.getElem?_eq_some_iff.1 I.hs).1
                have h2 := GD.hss
                rcases Nat.lt_or_ge p q with hpq | hpq
                · have hpl : p < s.ss.length := by omega
                  have hj : s.ss[p]? = some s.ss[p] := by simp [hpl]
                  have := (I.steps p _ hj).1 (hal _ (GD.ssl _ (List.mem_of_getElem? hj)))
                  omega
                · omega
              subst hp
              have e1' : (hl, insl) = (hh, ins) := Option.some.inj (hq2.symm.trans I.hs)
              cases e1'
              obtain ⟨S1, _, _⟩ := adoptAll_sound hadopt I.st (fun x hx => by have := GD.newl x hx; have := I.nx; omega) (fun x hx _ => I.pend x hx (hal _ (GD.newl x hx).1)) I.inj (GD.newd.imp fun h => h.1)
              refine hQ e1 a1 w1 S1 ⟨?_, ?_⟩
              · have hn : (finalT aa.tmps ops.toList s.vals).n = aa.tmps.n := finalT_n
                refine ⟨?_, fun t ht => ?_, fun t v' hv' => ?_⟩
                · show a1.tmps.size = (finalT aa.tmps ops.toList s.vals).n
                  rw [hn, I.tsz]; exact hA.tmps.size
                · have ht' : aa.tmps.n ≤ t := hn ▸ ht
                  show (finalT aa.tmps ops.toList s.vals).t.get t = none
                  rw [finalT_out ht']; exact hA.tmps.out t ht'
                · have hlt : t < aa.tmps.n := by have := (Array.getElem?_eq_some_iff.1 hv').1; rw [I.tsz, hA.tmps.size] at this; exact this
                  show VR e1 (getV ((finalT aa.tmps ops.toList s.vals).t.get t)) v'
                  by_cases hex : ∃ (k : Nat) (o : Oper), ops[k]? = some o ∧ o.dst = some t
                  · obtain ⟨k, o, ho, hdst⟩ := hex
                    have hk : k < ops.size := (Array.getElem?_eq_some_iff.1 ho).1
                    have hkv : k < s.vals.length := by rw [GD.len]; exact hk
                    have hv : s.vals[k]? = some s.vals[k] := by simp [hkv]
                    rw [finalT_at (tm := aa.tmps) (k := k) hdsts (by simpa using ho) hdst hv hlt]
                    exact I.tnew k o t _ _ ho (hal k hk) hdst hv hv'
                  · rw [finalT_other (fun o ho hdst => by
                      obtain ⟨k, hk⟩ := List.getElem?_of_mem ho
                      exact hex ⟨k, o, by simpa using hk, hdst⟩)]
                    have := I.told t (fun i o ho _ hdst => hex ⟨i, o, ho, hdst⟩)
                    rw [this] at hv'
                    exact (hA.tmps.get t v' hv').mono S1.le
              · show DefsR e1 aa.defers a1.defers
                rw [I.dfs]; exact hA.defers.mono S1.le
            · intro i o _ hi
              simp only [getD_replicate] at hi; cases hi
            · intro x _ hx
              rw [getD_replicate] at hx; cases hx
            · intro q i hq
              rw [getD_replicate]; simp
            · intro i o d v v' _ hi
              rw [getD_replicate] at hi; cases hi
            · intro x hx _
              exact H.freshφ x.id (GD.newl x hx).2.1
            · intro x hx y hy _ b hb
              rw [H.freshφ x.id (GD.newl x hx).2.1] at hb; cases hb
          · cases hd
        · cases hd
      · cases hd
    · cases hd
  · cases hd
end
end Go.Ev
end

