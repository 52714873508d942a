import Derived.Test.YtckekpcnpccpmaaGreatEvD
set_option linter.unusedVariables false
set_option linter.unusedSimpArgs false
set_option linter.unusedSectionVars false
noncomputable section
namespace Go.Ev
variable {G : Ctx}
variable (P : Program) (draw : ((Job G) → Option (Res G)) → Option Nat → Array Oper → (AAct G) → (AH G) → Option (Res G)) (self : (Job G) → Option (Res G))

def seqF (rd : Option Nat) (y : Code) : Option (Res G) → Option (Res G)
  | some (.at_ .normal a h) => self (.code rd y a h)
  | r => r

def condF (rd : Option Nat) (x y : Code) (a : (AAct G)) (h : (AH G)) : Option (AV G) → Option (Res G)
  | some (.bool true) => self (.code rd x a h)
  | some (.bool false) => self (.code rd y a h)
  | _ => none

def blockF (id : Nat) : Option (Res G) → Option (Res G)
  | some (.at_ (.exit id') a h) => some (.at_ (if id' = id then .normal else .exit id') a h)
  | r => r

def scopeF : Option (Res G) → Option (Res G)
  | some (.at_ (.goto _) _ _) => none
  | r => r

def rangeF3 (rd : Option Nat) (a2 : (AAct G)) (h3 : (AH G)) : Option Code → Option (Res G)
  | none => some (.at_ .normal a2 h3)
  | some c => self (.code rd c a2 h3)

def rangeF2 (rd : Option Nat) (a : (AAct G)) (next : Nat) (mark : List ADf) (h2 : (AH G)) : Option (ALoop G) → Option (Res G)
  | some l => if l.state == .busy then none else rangeF3 self rd { a with defers := mark ++ a.defers } (h2.putO next (.loop { l with state := .exhausted })) l.pending
  | none => none

def rangeF1 (rd : Option Nat) (a : (AAct G)) (next : Nat) (mark : List ADf) : Option (Res G) → Option (Res G)
  | some (.ret _ h2) => rangeF2 self rd a next mark h2 (getLoop h2 next)
  | _ => none

def rangeF (rd : Option Nat) (g : Operand) (ps : Array Tmp) (assign body : Code) (a : (AAct G)) (h : (AH G)) : Option (Res G) :=
      match rho a.tmps g with
      | some (.func (.func f) first cap) =>
        match P.funcs[f]? with
        | some fn =>
          if (fn.name == "runtime.NumGoroutine") = false ∧ fn.body.isSome = true then
            let go (h : (AH G)) (df : Nat) (mark : List ADf) : Option (Res G) :=
              rangeF1 self rd a h.next mark (self (.call f (first ++ [.yield h.next] ++ cap) (h.allocO (.loop { state := .ready, pending := none, tmps := a.tmps, params := ps, assign, body, defers := df }))))
            match rd with
            | none => go (h.allocO (.defd (some []))) h.next [.mark h.next]
            | some l => match getLoop h l with
              | some r => go h r.defers []
              | none => none
          else none
        | none => none
      | _ => none

def codeF (rd : Option Nat) (a : (AAct G)) (h : (AH G)) (c : Code) : Option (Res G) :=
    match c with
    | .skip | .label _ => some (.at_ .normal a h)
    | .region _ ops false => self (.ops rd ops (List.range ops.size) a h)
    | .region _ ops true => draw self rd ops a h
    | .seq x y => seqF self rd y (self (.code rd x a h))
    | .cond c x y => condF self rd x y a h (rho a.tmps c)
    | .block id x => blockF id (self (.code rd x a h))
    | .loop x => loopA self rd x loopMost a h
    | .scope x => scopeF (self (.code rd x a h))
    | .exit id => some (.at_ (.exit id) a h)
    | .goto l => some (.at_ (.goto l) a h)
    | .ret => some (.at_ .ret a h)
    | .rangeFunc g ps assign body => rangeF P self rd g ps assign body a h
    | _ => none

def retF (rd : Option Nat) (ops : Array Oper) (rest : List Nat) (dst : Option Nat) (a : (AAct G)) : Option (Res G) → Option (Res G)
  | some (.ret v h) => self (.ops rd ops rest (putA a dst v) h)
  | _ => none

def opResF (rd : Option Nat) (ops : Array Oper) (rest : List Nat) (dst : Option Nat) (a : (AAct G)) (h0 : (AH G)) : Option (OpRes G) → Option (Res G)
  | some (.val v h) => self (.ops rd ops rest (putA a dst v) h)
  | some (.call f args) => retF self rd ops rest dst a (self (.call f args h0))
  | some (.round id args) => retF self rd ops rest dst a (self (.round id args h0))
  | none => none

def wantF (rd : Option Nat) (ops : Array Oper) (rest : List Nat) (o : Oper) (a : (AAct G)) (h : (AH G)) : Option Bool → Option (Res G)
  | some true => opResF self rd ops rest o.dst a h (opA P a.tmps h o.op)
  | some false => self (.ops rd ops rest (putA a o.dst undefA) h)
  | none => none

def atF (rd : Option Nat) (ops : Array Oper) (rest : List Nat) (a : (AAct G)) (h : (AH G)) : Option Oper → Option (Res G)
  | none => self (.ops rd ops rest a h)
  | some o => wantF P self rd ops rest o a h (wantA ops a.tmps o)

def opsF (rd : Option Nat) (ops : Array Oper) (a : (AAct G)) (h : (AH G)) : List Nat → Option (Res G)
  | [] => some (.at_ .normal a h)
  | i :: rest => atF P self rd ops rest a h ops[i]?

def outF (fn : Func) (tm : (TT G)) : Option (AH G) → Option (Res G)
  | some h => match ressA P tm h fn.results.toList with
    | some vs => some (.ret (tupA vs) h)
    | none => none
  | none => none

def leftF (fn : Func) : Option (Res G) → Option (Res G)
  | some (.at_ x a h) => if isRet x = true then outF P fn a.tmps (leaveA a.defers h) else none
  | _ => none

def bodyF (fn : Func) (args : List (AV G)) (h : (AH G)) : Option Code → Option (Res G)
  | some c => leftF P fn (self (.code none c { tmps := ofT args fn.ntmps, defers := [] } h))
  | none => none

def funF (args : List (AV G)) (h : (AH G)) : Option Func → Option (Res G)
  | some fn => bodyF P self fn args h fn.body
  | none => none

def stepF : (Job G) → Option (Res G)
  | .code rd c a h => codeF P draw self rd a h c
  | .ops rd ops l a h => opsF P self rd ops a h l
  | .call f args h => funF P self args h P.funcs[f]?
  | .round id args h => stepJ P draw self (.round id args h)

theorem stepF_eq (j : (Job G)) : stepF P draw self j = stepJ P draw self j := by
  cases j with
  | code rd c a h =>
    cases c with
    | region i ops d => cases d <;> rfl
    | seq x y =>
      simp only [stepF, codeF, stepJ]
      unfold seqF; rfl
    | cond c x y => simp only [stepF, codeF, stepJ]; unfold condF; rfl
    | block id x => simp only [stepF, codeF, stepJ]; unfold blockF; rfl
    | scope x => simp only [stepF, codeF, stepJ]; unfold scopeF; rfl
    | rangeFunc g ps assign body => simp only [stepF, codeF, stepJ, rangeF, rangeF1, rangeF2, rangeF3]; rfl
    | _ => rfl
  | ops rd ops l a h =>
    cases l with
    | nil => rfl
    | cons i rest => simp only [stepF, opsF, stepJ, atF]; unfold wantF opResF retF; rfl
  | call f args h => simp only [stepF, stepJ, funF, bodyF]; unfold leftF outF; rfl
  | round id args h => rfl

noncomputable def evF (n : Nat) : (Job G) → Option (Res G) := Nat.rec (fun _ => none) (fun _ self => stepF P draw self) n

theorem evF_eq (n : Nat) : evF P draw n = ev P draw n := by
  induction n with
  | zero => rfl
  | succ n ih =>
    show stepF P draw (evF P draw n) = stepJ P draw (ev P draw n)
    rw [ih]; exact funext (stepF_eq P draw _)
end Go.Ev

namespace Go.Ev
variable {G : Ctx}
open Go.RowKit

def emptyH : AH G := ⟨.nil, .nil, 0, 0⟩

def baseEnv (o : Nat → Value) (h1 : ∀ k, (o k).oneCell' = true) (hG : G.holds o) (n : Nat) : Env G := { φ := fun _ => none, opq := o, base := n, room := fun _ => 0, one := h1, holds := hG }

theorem HR.empty (o : Nat → Value) (h1 : ∀ k, (o k).oneCell' = true) (hG : G.holds o) (w : World) : HR (baseEnv o h1 hG w.heap.size) emptyH w :=
  ⟨fun _ _ h => by simp [emptyH, Tr.get_nil] at h, fun _ _ _ _ _ _ _ _ h => by simp [emptyH, Tr.get_nil] at h, fun _ _ _ h => by simp [emptyH, Tr.get_nil] at h, fun _ _ h => by simp [emptyH, Tr.get_nil] at h,
   fun _ _ => by simp [emptyH, Tr.get_nil], fun _ _ => rfl, fun _ _ => by simp [emptyH, Tr.get_nil], fun _ _ _ h => by simp [emptyH, Tr.get_nil] at h, Nat.le_refl _⟩

theorem evF_sound (P : Program) (n : Nat) : SelfOK (G := G) P (evF P (drawA P) n) := by
  rw [evF_eq]; exact ev_sound (drawA_ok P) n

/-! ### Calls that are answered by what was proved of them -/
/-- A call of known arguments, and what it leaves. -/
structure KE (G : Ctx) where
  f : Nat
  args : List (AV G)
  /-- What the memory must show. -/
  pre : AH G → Bool
  res : AH G → AV G × AH G

def KE.ok (P : Program) (k : KE G) : Prop := ∀ h, k.pre h = true → JobOK P (.call k.f k.args h) (.ret (k.res h).1 (k.res h).2)

def findK (f : Nat) (args : List (AV G)) (l : List (KE G)) : Option (KE G) :=
  List.rec none (fun k _ ih => Bool.rec ih (Bool.rec ih (some k) (samesA k.args args)) (Nat.beq k.f f)) l

theorem findK_some {f : Nat} {args : List (AV G)} : ∀ {l : List (KE G)} {k : KE G}, findK f args l = some k → k ∈ l ∧ k.f = f ∧ k.args = args
  | [], k, h => by cases h
  | c :: l, k, h => by
    change (Bool.rec (findK f args l) (Bool.rec (findK f args l) (some c) (samesA c.args args)) (Nat.beq c.f f) : Option _) = some k at h
    cases h1 : Nat.beq c.f f with
    | false => rw [h1] at h; obtain ⟨a, b⟩ := findK_some h; exact ⟨List.mem_cons_of_mem _ a, b⟩
    | true =>
      rw [h1] at h
      cases h2 : samesA c.args args with
      | false => rw [h2] at h; obtain ⟨a, b⟩ := findK_some h; exact ⟨List.mem_cons_of_mem _ a, b⟩
      | true =>
        rw [h2] at h
        cases h
        exact ⟨List.mem_cons_self .., Nat.eq_of_beq_eq_true h1, samesA_eq h2⟩

def answerK (h : AH G) (r : Option (Res G)) : Option (KE G) → Option (Res G)
  | some k => Bool.rec r (some (.ret (k.res h).1 (k.res h).2)) (k.pre h)
  | none => r

def stepK (P : Program) (T : List (KE G)) (draw : (Job G → Option (Res G)) → Option Nat → Array Oper → AAct G → AH G → Option (Res G)) (self : Job G → Option (Res G)) : Job G → Option (Res G)
  | .code rd c a h => codeF P draw self rd a h c
  | .ops rd ops l a h => opsF P self rd ops a h l
  | .call f args h => answerK h (funF P self args h P.funcs[f]?) (findK f args T)
  | .round id args h => stepJ P draw self (.round id args h)

def evK (P : Program) (T : List (KE G)) (draw : (Job G → Option (Res G)) → Option Nat → Array Oper → AAct G → AH G → Option (Res G)) (n : Nat) : Job G → Option (Res G) := Nat.rec (fun _ => none) (fun _ self => stepK P T draw self) n

theorem evK_sound (P : Program) {T : List (KE G)} (hT : ∀ k ∈ T, k.ok P) : ∀ n, SelfOK P (evK P T (drawA P) n)
  | 0 => fun _ _ h => by cases h
  | n + 1 => by
    intro j r h
    have ih := evK_sound P hT n
    have step : ∀ j r, stepF P (drawA P) (evK P T (drawA P) n) j = some r → JobOK P j r := fun j r h => by
      rw [stepF_eq] at h
      exact stepJ_sound (drawA_ok P) ih j r h
    change stepK P T (drawA P) (evK P T (drawA P) n) j = some r at h
    cases j with
    | code rd c a hh => exact step _ _ h
    | ops rd ops l a hh => exact step _ _ h
    | round id args hh => exact step (.round id args hh) _ h
    | call f args hh =>
      change answerK hh _ (findK f args T) = some r at h
      cases hf : findK f args T with
      | none => rw [hf] at h; exact step (.call f args hh) _ h
      | some k =>
        rw [hf] at h
        change (Bool.rec _ _ (k.pre hh) : Option (Res G)) = some r at h
        cases hp : k.pre hh with
        | false => rw [hp] at h; exact step (.call f args hh) _ h
        | true =>
          rw [hp] at h
          cases h
          obtain ⟨h1, rfl, rfl⟩ := findK_some hf
          exact hT k h1 hh hp

/-- Nothing below the heap's end has changed. -/
theorem St.of_below {e : Env G} {h : AH G} {w w' : World} (H : HR e h w) (b : Below w.heap.size w w') : St e h w e h w' := by
  have hblk : ∀ b' x id o, h.objs.get id = some o → o.owned = true → e.φ id = some (b', x) → b' < w.heap.size := fun b' x id o h1 h2 h3 => (H.obj _ _ h1).block_lt h2 h3
  refine ⟨.refl e, ⟨fun id o ho => ?_, H.sep, H.grp, H.ord, H.fresh, H.freshφ, H.freshg, H.gsmall, Nat.le_trans H.base b.size⟩, b.os, b.tape, b.output, b.size, fun r hr _ => b.block r hr, fun _ _ h => h, Nat.le_refl _, fun _ _ h => h⟩
  have hO := H.obj id o ho
  cases o with
  | cells vs g =>
    cases g with
    | some g => exact hO.same (fun b' x hx => b.block b' (hblk b' x id _ ho rfl hx))
    | none =>
      have hO' := hO
      obtain ⟨b', x', h1, h2, _⟩ := hO'
      exact hO.same (fun b'' x hx => by rw [h1] at hx; cases hx; exact b.block b' (by have := H.base; omega))
  | map es => exact hO.same (fun b' x hx => b.block b' (hblk b' x id _ ho rfl hx))
  | loop l => exact hO.same (fun b' x hx => b.block b' (hblk b' x id _ ho rfl hx))
  | defd ds => exact hO.same (fun b' x hx => b.block b' (hblk b' x id _ ho rfl hx))
  | dead => trivial

/-- A call that leaves memory alone. -/
def KE.same (f : Nat) (args : List (AV G)) (pre : AH G → Bool) (v : AV G) : KE G := ⟨f, args, pre, fun h => (v, h)⟩

theorem KE.same_ok {P : Program} {f : Nat} {args : List (AV G)} {pre : AH G → Bool} {v : AV G}
    (C : ∀ (e : Env G) (vs : Array Value) (w : World) (h : AH G), pre h = true → HR e h w → VRs e args vs.toList → Calls P f vs w fun en w' => ∃ v', en = .returned v' ∧ VR e v v' ∧ Below w.heap.size w w') : (KE.same f args pre v).ok P := by
  intro h hp e vs w n R H hv hR
  refine callsIn_wide.2 ((C e vs w h hp H hv).mono fun en w' ⟨v', h1, h2, h3⟩ => ?_)
  subst h1
  exact hR e v' w' (St.of_below H h3) h2

def saysB (b : Bool) : Option (Res G) → Bool
  | some (.ret (.bool c) _) => c == b
  | _ => false

theorem saysB_spec {b : Bool} {r : Option (Res G)} (h : saysB b r = true) : ∃ hh, r = some (.ret (.bool b) hh) := by
  unfold saysB at h
  split at h
  · rename_i c hh; simp at h; subst h; exact ⟨hh, rfl⟩
  · cases h

/-- A call of no arguments that the evaluator answers. -/
theorem calls_of_says {P : Program} {n f : Nat} {b : Bool} (h : saysB b (evF (G := plain) P (drawA P) n (.call f [] emptyH)) = true) (w : World) :
    Calls P f #[] w fun e w' => e = .returned (.bool b) ∧ Below w.heap.size w w' := by
  obtain ⟨hh, hr⟩ := saysB_spec h
  have k := evF_sound P n _ _ hr
  have H := HR.empty (fun _ => .bool false) (fun _ => rfl) (plain_holds _) w
  refine (callsIn_wide (n := 0)).1 (k _ #[] w 0 _ H (by simp [VRs]) (fun e' v' w' S hv => ?_))
  cases hv.bool
  exact ⟨rfl, S.below H⟩
end Go.Ev

namespace Go.Ev
variable {G : Ctx}

/-- A part of an abstract heap. -/
structure Part (hs h : (AH G)) : Prop where
  objs : ∀ id o, hs.objs.get id = some o → h.objs.get id = some o
  grps : ∀ g st, hs.grps.get g = some st → h.grps.get g = some st
  grp : ∀ id vs g, hs.objs.get id = some (.cells vs (some g)) → ∃ st, hs.grps.get g = some st ∧ id ∈ st
  next : h.next ≤ hs.next
  ngrp : h.ngrp ≤ hs.ngrp

theorem HR.part {e : (Env G)} {h hs : (AH G)} {w : World} (H : HR e h w) (p : Part hs h) : HR e hs w := by
  refine ⟨fun id o ho => H.obj id o (p.objs id o ho), fun i j oi oj b x y hij hi hj => H.sep i j oi oj b x y hij (p.objs _ _ hi) (p.objs _ _ hj), p.grp, fun g st hst => ?_, fun id hid => ?_, fun id hid => H.freshφ id (Nat.le_trans p.next hid), fun g hg => ?_, fun g st id hst hid => Nat.lt_of_lt_of_le (H.gsmall g st id (p.grps _ _ hst) hid) p.next, H.base⟩
  · exact (H.ord g st (p.grps _ _ hst)).imp fun {i j} hp vi vj h1 h2 => hp vi vj (p.objs _ _ h1) (p.objs _ _ h2)
  · cases ho : hs.objs.get id with
    | none => rfl
    | some o =>
      have := p.objs id o ho
      rw [H.fresh id (Nat.le_trans p.next hid)] at this; cases this
  · cases ho : hs.grps.get g with
    | none => rfl
    | some st =>
      have := p.grps g st ho
      rw [H.freshg g (Nat.le_trans p.ngrp hg)] at this; cases this

theorem Part.owned {e : (Env G)} {h hs : (AH G)} (p : Part hs h) {r : Nat} (ho : Owned e hs r) : Owned e h r := by
  obtain ⟨id, o, x, h1, h2, h3⟩ := ho
  exact ⟨id, o, x, p.objs _ _ h1, h2, h3⟩

theorem St.part {e e' : (Env G)} {h hs h' : (AH G)} {w w' : World} (S : St e hs w e' h' w') (p : Part hs h) : St e h w e' h' w' :=
  ⟨S.le, S.hr, S.os, S.tape, S.output, S.size, fun r hr hn => S.keep r hr (fun ho => hn (p.owned ho)), fun r hr ho => p.owned (S.own r hr ho), Nat.le_trans p.next S.next, fun id hid => S.nob id (Nat.lt_of_lt_of_le hid p.next)⟩

/-- What is so from a part of the heap is so from the heap. -/
theorem JobOK.part {P : Program} {rd : Option Nat} {c : Code} {a : (AAct G)} {h hs : (AH G)} {r : (Res G)} (k : JobOK P (.code rd c a hs) r) (p : Part hs h) : JobOK P (.code rd c a h) r := by
  cases r with
  | ret v h' => exact k.elim
  | at_ x a' h' => exact fun e a w F n Q H hA hF hQ => k e a w F n Q (H.part p) hA hF (fun e1 a1 w1 S hA1 => hQ e1 a1 w1 (S.part p) hA1)

/-- One piece of code behind another. -/
theorem JobOK.seq {P : Program} {rd : Option Nat} {c d : Code} {a a1 : (AAct G)} {h h1 : (AH G)} {r : (Res G)} (k1 : JobOK P (.code rd c a h) (.at_ .normal a1 h1)) (k2 : JobOK P (.code rd d a1 h1) r) : JobOK P (.code rd (.seq c d) a h) r := by
  cases r with
  | ret v h' => exact k2.elim
  | at_ x a' h' =>
    exact fun e a w F n Q H hA hF hQ => wpIn_seq (k1 e a w F n _ H hA hF (fun e1 a1' w1 hst hA1 =>
      k2 e1 a1' w1 F n Q hst.hr hA1 (hF.mono hst.le) (fun e2 a2 w2 hst2 hA2 => hQ e2 a2 w2 (hst.trans hst2) hA2)))

/-- Acts whose temporaries are the same, one by one. -/
def sameTs (x y : (TT G)) : Nat → Bool
  | 0 => true
  | n + 1 => sameA (getT x n) (getT y n) && sameTs x y n

theorem sameTs_get {x y : (TT G)} : ∀ {n i : Nat}, sameTs x y n = true → i < n → getT x i = getT y i
  | 0, i, _, h => by omega
  | n + 1, i, hs, h => by
    simp only [sameTs, Bool.and_eq_true] at hs
    by_cases hi : i = n
    · subst hi; exact sameA_eq hs.1
    · exact sameTs_get hs.2 (by omega)

/-- An activation in which the temporaries have the same values can stand for one. -/
theorem ActR.same {e : (Env G)} {aa bb : (AAct G)} {a : Act} (k : ActR e aa a) (hn : aa.tmps.n = bb.tmps.n) (ht : sameTs aa.tmps bb.tmps aa.tmps.n = true) (hout : ∀ i, bb.tmps.n ≤ i → bb.tmps.t.get i = none) (hd : aa.defers = bb.defers) : ActR e bb a := by
  refine ⟨⟨k.tmps.size.trans hn, hout, fun i v hv => ?_⟩, hd ▸ k.defers⟩
  have hlt : i < aa.tmps.n := by have := (Array.getElem?_eq_some_iff.1 hv).1; rw [k.tmps.size] at this; exact this
  rw [← sameTs_get ht hlt]
  exact k.tmps.get i v hv
end Go.Ev

namespace Go.Ev
variable {G : Ctx}

theorem St.shrink {e e' : (Env G)} {h h' hs : (AH G)} {w w' : World} (S : St e h w e' h' w') (p : Part hs h') : St e h w e' hs w' :=
  ⟨S.le, S.hr.part p, S.os, S.tape, S.output, S.size, S.keep, fun r hr ho => S.own r hr (p.owned ho), Nat.le_trans S.next p.next, S.nob⟩

structure Cell (G : Ctx) where
  id : Nat
  vs : List (AV G)
  g : Nat

def mkT : List (Nat × (AV G)) → Tr (AV G)
  | [] => .nil
  | (i, v) :: r => (mkT r).set i v

def mkO : List (Cell G) → Tr (AObj G)
  | [] => .nil
  | c :: r => (mkO r).set c.id (.cells c.vs (some c.g))

def mkG : List (Cell G) → Tr (List Nat)
  | [] => .nil
  | c :: r => (mkG r).set c.g [c.id]

def mkA (n : Nat) (l : List (Nat × (AV G))) : (AAct G) := { tmps := { t := mkT l, n }, defers := [] }
def mkH (l : List (Cell G)) (nx ng : Nat) : (AH G) := { objs := mkO l, grps := mkG l, next := nx, ngrp := ng }

theorem mkT_get : ∀ {l : List (Nat × (AV G))} {i : Nat} {v : (AV G)}, (mkT l).get i = some v → ∃ x ∈ l, x.1 = i
  | [], i, v, h => by cases h
  | (j, u) :: r, i, v, h => by
    unfold mkT at h
    by_cases hj : i = j
    · exact ⟨(j, u), by simp, hj.symm⟩
    · rw [Tr.get_set_other _ _ hj] at h
      obtain ⟨x, h1, h2⟩ := mkT_get h
      exact ⟨x, by simp [h1], h2⟩

theorem mkO_get : ∀ {l : List (Cell G)} {i : Nat} {o : (AObj G)}, (mkO l).get i = some o → ∃ c ∈ l, c.id = i ∧ o = .cells c.vs (some c.g)
  | [], i, v, h => by cases h
  | c :: r, i, o, h => by
    unfold mkO at h
    by_cases hj : i = c.id
    · subst hj; rw [Tr.get_set_same] at h; cases h; exact ⟨c, by simp, rfl, rfl⟩
    · rw [Tr.get_set_other _ _ hj] at h
      obtain ⟨x, h1, h2⟩ := mkO_get h
      exact ⟨x, by simp [h1], h2⟩

theorem mkG_get : ∀ {l : List (Cell G)} {g : Nat} {st : List Nat}, (mkG l).get g = some st → ∃ c ∈ l, c.g = g ∧ st = [c.id]
  | [], i, v, h => by cases h
  | c :: r, g, st, h => by
    unfold mkG at h
    by_cases hj : g = c.g
    · subst hj; rw [Tr.get_set_same] at h; cases h; exact ⟨c, by simp, rfl, rfl⟩
    · rw [Tr.get_set_other _ _ hj] at h
      obtain ⟨x, h1, h2⟩ := mkG_get h
      exact ⟨x, by simp [h1], h2⟩

def cellOk (h : (AH G)) (l : List (Cell G)) (c : (Cell G)) : Bool :=
  (match h.objs.get c.id with
   | some (.cells vs (some g)) => samesA vs c.vs && Nat.beq g c.g
   | _ => false) &&
  (match h.grps.get c.g with
   | some [id] => Nat.beq id c.id
   | _ => false) &&
  (match (mkG l).get c.g with
   | some [id] => Nat.beq id c.id
   | _ => false)

def cellsOk (h : (AH G)) (l : List (Cell G)) : List (Cell G) → Bool
  | [] => true
  | c :: r => cellOk h l c && cellsOk h l r

theorem cellsOk_mem {h : (AH G)} {l : List (Cell G)} : ∀ {r : List (Cell G)} {c : (Cell G)}, cellsOk h l r = true → c ∈ r → cellOk h l c = true
  | [], c, _, hc => by cases hc
  | d :: r, c, hs, hc => by
    simp only [cellsOk, Bool.and_eq_true] at hs
    rcases List.mem_cons.1 hc with rfl | hc
    · exact hs.1
    · exact cellsOk_mem hs.2 hc

theorem cellOk_spec {h : (AH G)} {l : List (Cell G)} {c : (Cell G)} (hc : cellOk h l c = true) : h.objs.get c.id = some (.cells c.vs (some c.g)) ∧ h.grps.get c.g = some [c.id] ∧ (mkG l).get c.g = some [c.id] := by
  unfold cellOk at hc
  simp only [Bool.and_eq_true] at hc
  obtain ⟨⟨h1, h2⟩, h3⟩ := hc
  refine ⟨?_, ?_, ?_⟩
  · split at h1
    · rename_i vs g hg
      simp only [Bool.and_eq_true] at h1
      rw [hg, samesA_eq h1.1, Nat.eq_of_beq_eq_true h1.2]
    · cases h1
  · split at h2
    · rename_i id hg; rw [hg, Nat.eq_of_beq_eq_true h2]
    · cases h2
  · split at h3
    · rename_i id hg; rw [hg, Nat.eq_of_beq_eq_true h3]
    · cases h3

theorem part_of {h : (AH G)} {l : List (Cell G)} {nx ng : Nat} (hc : cellsOk h l l = true) (h1 : h.next ≤ nx) (h2 : h.ngrp ≤ ng) : Part (mkH l nx ng) h := by
  refine ⟨fun id o ho => ?_, fun g st hst => ?_, fun id vs g ho => ?_, h1, h2⟩
  · obtain ⟨c, hm, rfl, rfl⟩ := mkO_get ho
    exact (cellOk_spec (cellsOk_mem hc hm)).1
  · obtain ⟨c, hm, rfl, rfl⟩ := mkG_get hst
    exact (cellOk_spec (cellsOk_mem hc hm)).2.1
  · obtain ⟨c, hm, rfl, ho'⟩ := mkO_get ho
    have e : g = c.g := by injection ho' with _ e; exact Option.some.inj e
    subst e
    exact ⟨[c.id], (cellOk_spec (cellsOk_mem hc hm)).2.2, by simp⟩

def idxOk (n : Nat) : List (Nat × (AV G)) → Bool
  | [] => true
  | (i, _) :: r => Nat.ble (Nat.succ i) n && idxOk n r

theorem idxOk_mem {n : Nat} : ∀ {l : List (Nat × (AV G))} {x : Nat × (AV G)}, idxOk n l = true → x ∈ l → x.1 < n
  | [], x, _, h => by cases h
  | (i, v) :: r, x, hs, h => by
    simp only [idxOk, Bool.and_eq_true] at hs
    rcases List.mem_cons.1 h with rfl | h
    · exact Nat.le_of_ble_eq_true hs.1
    · exact idxOk_mem hs.2 h

/-- A piece of code was gone through, and this is what it left: the temporaries, and of the heap these rows. -/
def pieceOk (n : Nat) (ts : List (Nat × (AV G))) (cs : List (Cell G)) (nx ng : Nat) : Option (Res G) → Bool
  | some (.at_ .normal a h) =>
    (match a.defers with | [] => true | _ => false) && Nat.beq a.tmps.n n && idxOk n ts && sameTs a.tmps (mkA n ts).tmps n && cellsOk h cs cs && Nat.ble h.next nx && Nat.ble h.ngrp ng
  | _ => false

theorem piece {P : Program} {m n : Nat} {rd : Option Nat} {c : Code} {a : (AAct G)} {h : (AH G)} {ts : List (Nat × (AV G))} {cs : List (Cell G)} {nx ng : Nat}
    (hp : pieceOk n ts cs nx ng (evF P (drawA P) m (.code rd c a h)) = true) : JobOK P (.code rd c a h) (.at_ .normal (mkA n ts) (mkH cs nx ng)) := by
  unfold pieceOk at hp
  split at hp
  · rename_i a1 h1 hr
    simp only [Bool.and_eq_true] at hp
    obtain ⟨⟨⟨⟨⟨⟨q1, q2⟩, q3⟩, q4⟩, q5⟩, q6⟩, q7⟩ := hp
    have k := evF_sound P m _ _ hr
    have hn := Nat.eq_of_beq_eq_true q2
    have hd : a1.defers = [] := by
      split at q1
      · assumption
      · cases q1
    have pt := part_of q5 (Nat.le_of_ble_eq_true q6) (Nat.le_of_ble_eq_true q7)
    refine fun e a w F n' Q H hA hF hQ => k e a w F n' Q H hA hF (fun e1 a1' w1 S hA1 => hQ e1 a1' w1 (S.shrink pt) (hA1.same hn (by rw [hn]; exact q4) (fun i hi => ?_) hd))
    cases hv : (mkT ts).get i with
    | none => exact hv
    | some v =>
      obtain ⟨x, h1, h2⟩ := mkT_get hv
      have := idxOk_mem q3 h1
      have hi' : n ≤ i := hi
      omega
  · cases hp

open Classical in
/-- A call, whose body was gone through in pieces. -/
theorem JobOK.call {P : Program} {f : FuncId} {fn : Func} {c : Code} {args : List (AV G)} {h h1 h2 : (AH G)} {x : Exit} {a1 : (AAct G)} {vs : List (AV G)} (hf : P.funcs[f]? = some fn) (hb : fn.body = some c)
    (k : JobOK P (.code none c { tmps := ofT args fn.ntmps, defers := [] } h) (.at_ x a1 h1)) (hx : isRet x = true) (hl : leaveA a1.defers h1 = some h2) (hr : ressA P a1.tmps h2 fn.results.toList = some vs) :
    JobOK P (.call f args h) (.ret (tupA vs) h2) := by
  have hs : SelfOK P (fun j => if j = .code none c { tmps := ofT args fn.ntmps, defers := [] } h then some (.at_ x a1 h1) else none) := by
    intro j r hj
    simp only at hj
    by_cases hj' : j = .code none c { tmps := ofT args fn.ntmps, defers := [] } h
    · rw [if_pos hj'] at hj; cases hj; subst hj'; exact k
    · rw [if_neg hj'] at hj; cases hj
  refine stepJ_sound (drawA_ok P) hs _ _ ?_
  simp only [stepJ, hf, hb, if_true, hx, hl, hr]

def lft : Code → Code
  | .seq x _ => x
  | c => c
def rgt : Code → Code
  | .seq _ y => y
  | c => c
def isSeq : Code → Bool
  | .seq _ _ => true
  | _ => false
def bodyOf : Option Code → Code
  | some c => c
  | none => .skip

theorem seq_parts {c : Code} (h : isSeq c = true) : c = .seq (lft c) (rgt c) := by
  cases c <;> first | rfl | cases h

theorem JobOK.seqP {P : Program} {rd : Option Nat} {c : Code} {a a1 : (AAct G)} {h h1 : (AH G)} {r : (Res G)} (hc : isSeq c = true) (k1 : JobOK P (.code rd (lft c) a h) (.at_ .normal a1 h1)) (k2 : JobOK P (.code rd (rgt c) a1 h1) r) : JobOK P (.code rd c a h) r := by
  rw [seq_parts hc]; exact JobOK.seq k1 k2

/-- A call of no arguments, gone through in pieces. -/
def endsIn (P : Program) (fn : Func) (b : Bool) : Option (Res G) → Bool
  | some (.at_ x a h) => isRet x && (match leaveA a.defers h with
    | some h => (match ressA P a.tmps h fn.results.toList with
      | some [.bool c] => c == b
      | _ => false)
    | none => false)
  | _ => false

theorem endsIn_spec {P : Program} {fn : Func} {b : Bool} {r : Option (Res G)} (h : endsIn P fn b r = true) : ∃ x a h1 h2, r = some (.at_ x a h1) ∧ isRet x = true ∧ leaveA a.defers h1 = some h2 ∧ ressA P a.tmps h2 fn.results.toList = some [.bool b] := by
  unfold endsIn at h
  split at h
  · rename_i x a h1
    simp only [Bool.and_eq_true] at h
    obtain ⟨hx, h⟩ := h
    split at h
    · rename_i h2 hl
      split at h
      · rename_i c hr; simp at h; subst h; exact ⟨x, a, h1, h2, rfl, hx, hl, hr⟩
      · cases h
    · cases h
  · cases h

def NoFrame (P : Program) (f : Nat) (b : Bool) : Prop := ∃ hh : AH plain, JobOK P (.call f [] emptyH) (.ret (.bool b) hh)

open Go.RowKit in
theorem NoFrame.calls {P : Program} {f : Nat} {b : Bool} (h : NoFrame P f b) (w : World) : Calls P f #[] w fun e w' => e = .returned (.bool b) ∧ Below w.heap.size w w' := by
  obtain ⟨hh, k⟩ := h
  have H := HR.empty (G := plain) (fun _ => .bool false) (fun _ => rfl) (plain_holds _) w
  refine (callsIn_wide (n := 0)).1 (k _ #[] w 0 _ H (by simp [VRs]) (fun e' v' w' S hv => ?_))
  cases hv.bool
  exact ⟨rfl, S.below H⟩

/-- What a rest of the body comes to. -/
def Ends (P : Program) (fn : Func) (b : Bool) (c : Code) (a : (AAct G)) (h : (AH G)) : Prop := ∃ x a1 h1 h2, JobOK P (.code none c a h) (.at_ x a1 h1) ∧ isRet x = true ∧ leaveA a1.defers h1 = some h2 ∧ ressA P a1.tmps h2 fn.results.toList = some [.bool b]

theorem Ends.last {P : Program} {fn : Func} {b : Bool} {c : Code} {a : (AAct G)} {h : (AH G)} {m : Nat} (k : endsIn P fn b (evF P (drawA P) m (.code none c a h)) = true) : Ends P fn b c a h := by
  obtain ⟨x, a1, h1, h2, r1, r2, r3, r4⟩ := endsIn_spec k
  exact ⟨x, a1, h1, h2, evF_sound P m _ _ r1, r2, r3, r4⟩

theorem Ends.cons {P : Program} {fn : Func} {b : Bool} {c : Code} {a : (AAct G)} {h : (AH G)} {m n : Nat} {ts : List (Nat × (AV G))} {cs : List (Cell G)} {nx ng : Nat} (hc : isSeq c = true)
    (hp : pieceOk n ts cs nx ng (evF P (drawA P) m (.code none (lft c) a h)) = true) (k : Ends P fn b (rgt c) (mkA n ts) (mkH cs nx ng)) : Ends P fn b c a h := by
  obtain ⟨x, a1, h1, h2, r1, r2, r3, r4⟩ := k
  exact ⟨x, a1, h1, h2, JobOK.seqP hc (piece hp) r1, r2, r3, r4⟩

theorem Ends.call {P : Program} {f : Nat} {fn : Func} {b : Bool} {c : Code} (hf : P.funcs[f]? = some fn) (hb : fn.body = some c) (k : Ends (G := plain) P fn b c { tmps := ofT [] fn.ntmps, defers := [] } emptyH) : NoFrame P f b := by
  obtain ⟨x, a1, h1, h2, r1, r2, r3, r4⟩ := k
  exact ⟨h2, JobOK.call hf hb r1 r2 r3 r4⟩
end Go.Ev

namespace Go.Ev
variable {G : Ctx}
open Go.RowKit

/-! ### Memory that was there -/
def frnO : List (List (AV G)) → Nat → Tr (AObj G)
  | [], _ => .nil
  | c :: r, i => (frnO r (i + 1)).set i (.cells c none)

theorem frnO_get : ∀ {l : List (List (AV G))} {i j : Nat} {o : AObj G}, (frnO l i).get j = some o → ∃ k vs, j = i + k ∧ l[k]? = some vs ∧ o = .cells vs none
  | [], i, j, o, h => by simp [frnO, Tr.get_nil] at h
  | c :: r, i, j, o, h => by
    unfold frnO at h
    by_cases hj : j = i
    · subst hj; rw [Tr.get_set_same] at h; cases h; exact ⟨0, c, rfl, rfl, rfl⟩
    · rw [Tr.get_set_other _ _ hj] at h
      obtain ⟨k, vs, h1, h2, h3⟩ := frnO_get h
      exact ⟨k + 1, vs, by omega, by simpa using h2, h3⟩

def frnH (l : List (List (AV G))) : AH G := ⟨frnO l 0, .nil, l.length, 0⟩

structure Plc where
  b : Nat
  o : Nat
  room : Nat

def frnEnv (o : Nat → Value) (h1 : ∀ k, (o k).oneCell' = true) (hG : G.holds o) (l : List Plc) (n : Nat) : Env G :=
  { φ := fun i => (l[i]?).map fun p => (p.b, p.o), opq := o, base := n, room := fun i => ((l[i]?).map (·.room)).getD 0, one := h1, holds := hG }

theorem HR.frn {o : Nat → Value} {h1 : ∀ k, (o k).oneCell' = true} {hG : G.holds o} {w : World} (cs : List (List (AV G))) (ps : List Plc) (hlen : ps.length = cs.length)
    (hc : ∀ (i : Nat) (c : List (AV G)) (p : Plc), cs[i]? = some c → ps[i]? = some p → p.b < w.heap.size ∧ ∀ (j : Nat) (a : AV G), c[j]? = some a → ∃ v, w.cell? ⟨p.b, p.o + j, none⟩ = some v ∧ VR (frnEnv o h1 hG ps w.heap.size) a v) :
    HR (frnEnv o h1 hG ps w.heap.size) (frnH cs) w := by
  have hget : ∀ {id ob}, (frnH cs).objs.get id = some ob → ∃ vs, cs[id]? = some vs ∧ ob = .cells vs none := fun h => by
    obtain ⟨k, vs, h1, h2, h3⟩ := frnO_get h
    rw [Nat.zero_add] at h1; subst h1
    exact ⟨vs, h2, h3⟩
  refine ⟨fun id ob ho => ?_, fun i j oi oj b x y _ hi _ hoi _ _ _ => ?_, fun id vs g ho => ?_, fun g st h => by simp [frnH, Tr.get_nil] at h, fun id hid => ?_, fun id hid => ?_, fun g _ => by simp [frnH, Tr.get_nil],
    fun g st id h => by simp [frnH, Tr.get_nil] at h, Nat.le_refl _⟩
  · obtain ⟨vs, h2, rfl⟩ := hget ho
    have hlt : id < ps.length := by rw [hlen]; exact (List.getElem?_eq_some_iff.1 h2).1
    have hp : ps[id]? = some ps[id] := List.getElem?_eq_getElem hlt
    obtain ⟨k1, k2⟩ := hc id vs _ h2 hp
    exact ⟨ps[id].b, ps[id].o, by simp [frnEnv, hp], k1, k2⟩
  · obtain ⟨vs, _, rfl⟩ := hget hi; cases hoi
  · obtain ⟨vs', _, h3⟩ := hget ho; cases h3
  · cases ho : (frnH cs).objs.get id with
    | none => rfl
    | some ob =>
      obtain ⟨vs, h2, _⟩ := hget ho
      have := (List.getElem?_eq_some_iff.1 h2).1
      have hid' : cs.length ≤ id := hid
      omega
  · have hid' : cs.length ≤ id := hid
    show (ps[id]?).map _ = none
    rw [List.getElem?_eq_none (by omega)]; rfl

/-! ### A call that leaves a new row -/
theorem OR.later {e e' : Env G} {w w' : World} {id : Nat} {ob : AObj G} {h : AH G} (H : HR e h w) (ho : h.objs.get id = some ob) (B : Below w.heap.size w w') (hle : e.le e') : OR e' w' id ob := by
  have S := St.of_below H B
  exact (S.hr.obj id ob ho).mono hle

theorem St.allocAt {e : Env G} {h : AH G} {w w' : World} (H : HR e h w) (B : Below w.heap.size w w') (vs : List (AV G)) (c : Array Value) (t : TypeId) (b : Nat) (hb : w.heap.size ≤ b) (hw : w'.heap[b]? = some (.cells c t (0, 0)))
    (hv : ∀ (i : Nat) (a : AV G), vs[i]? = some a → ∃ v, c[i]? = some v ∧ VR e a v) :
    St e h w (e.bind h.next b c.size) (h.allocC vs) w' := by
  have hle : e.le (e.bind h.next b c.size) := Env.le_bind (H.freshφ _ (Nat.le_refl _))
  have hget : ∀ id, (h.allocC vs).objs.get id = if id = h.next then some (.cells vs (some h.ngrp)) else h.objs.get id := fun id => Tr.get_set _ _ _ _
  have hgg : ∀ g, (h.allocC vs).grps.get g = if g = h.ngrp then some [h.next] else h.grps.get g := fun g => Tr.get_set _ _ _ _
  have hlt : ∀ {i o x y}, h.objs.get i = some o → o.owned = true → e.φ i = some (x, y) → x < w.heap.size := fun h1 h2 h3 => (H.obj _ _ h1).block_lt h2 h3
  refine ⟨hle, ?_, B.os, B.tape, B.output, B.size, fun r hr _ => B.block r hr, ?_, Nat.le_succ _, fun id hid k => by rw [Env.bind_other _ _ _ (Nat.ne_of_lt hid)]; exact k⟩
  · refine ⟨?_, ?_, ?_, ?_, ?_, ?_, ?_, ?_, ?_⟩
    · intro id o ho
      rw [hget] at ho
      by_cases hid : id = h.next
      · rw [if_pos hid] at ho; cases ho; subst hid
        refine ⟨b, Env.bind_same _ _ _ _, Nat.le_trans H.base hb, c, t, hw, by rw [Env.bind_room]; exact Nat.le_refl _, fun i a hi => ?_⟩
        obtain ⟨v, h1, h2⟩ := hv i a hi
        exact ⟨v, h1, h2.mono hle⟩
      · rw [if_neg hid] at ho
        exact OR.later H ho B hle
    · intro i j oi oj b' x y hij hi hj hoi hoj hφi hφj
      rw [hget] at hi hj
      by_cases h1 : i = h.next
      · by_cases h2 : j = h.next
        · exact absurd (h1.trans h2.symm) hij
        · rw [if_neg h2] at hj
          rw [Env.bind_other _ _ _ h2] at hφj
          rw [h1, Env.bind_same] at hφi
          cases hφi
          exact absurd (hlt hj hoj hφj) (by omega)
      · rw [if_neg h1] at hi
        rw [Env.bind_other _ _ _ h1] at hφi
        by_cases h2 : j = h.next
        · rw [h2, Env.bind_same] at hφj
          cases hφj
          exact absurd (hlt hi hoi hφi) (by omega)
        · rw [if_neg h2] at hj
          rw [Env.bind_other _ _ _ h2] at hφj
          exact H.sep i j oi oj b' x y hij hi hj hoi hoj hφi hφj
    · intro id us g ho
      rw [hget] at ho
      by_cases hid : id = h.next
      · rw [if_pos hid] at ho; cases ho
        exact ⟨[h.next], by rw [hgg, if_pos rfl], by simp [hid]⟩
      · rw [if_neg hid] at ho
        obtain ⟨st, h1, h2⟩ := H.grp id us g ho
        have : g ≠ h.ngrp := fun k => by rw [H.freshg g (by omega)] at h1; cases h1
        exact ⟨st, by rw [hgg, if_neg this]; exact h1, h2⟩
    · intro g st hst
      rw [hgg] at hst
      by_cases hg : g = h.ngrp
      · rw [if_pos hg] at hst; cases hst; simp
      · rw [if_neg hg] at hst
        refine (H.ord g st hst).imp_of_mem (fun {i j} hi hj hp vi vj h1 h2 => ?_)
        have hi' := H.gsmall g st i hst hi
        have hj' := H.gsmall g st j hst hj
        rw [hget, if_neg (by omega)] at h1 h2
        exact hp vi vj h1 h2
    · intro id hid
      have hid' : h.next + 1 ≤ id := hid
      rw [hget, if_neg (by omega)]
      exact H.fresh id (by omega)
    · intro id hid
      have hid' : h.next + 1 ≤ id := hid
      rw [Env.bind_other _ _ _ (by omega)]
      exact H.freshφ id (by omega)
    · intro g hg
      have hg' : h.ngrp + 1 ≤ g := hg
      rw [hgg, if_neg (by omega)]
      exact H.freshg g (by omega)
    · intro g st id hst hid
      show id < h.next + 1
      rw [hgg] at hst
      by_cases hg : g = h.ngrp
      · rw [if_pos hg] at hst; cases hst; simp at hid; omega
      · rw [if_neg hg] at hst
        have := H.gsmall g st id hst hid; omega
    · exact Nat.le_trans H.base B.size
  · intro r hr ⟨id, o, x, h1, h2, h3⟩
    rw [hget] at h1
    by_cases hid : id = h.next
    · rw [hid, Env.bind_same] at h3; cases h3; omega
    · rw [if_neg hid] at h1
      rw [Env.bind_other _ _ _ hid] at h3
      exact ⟨id, o, x, h1, h2, h3⟩

/-- A call that leaves a new row. -/
def KE.row (f : Nat) (args : List (AV G)) (pre : AH G → Bool) (v : Nat → AV G) (cs : List (AV G)) : KE G := ⟨f, args, pre, fun h => (v h.next, h.allocC cs)⟩

theorem KE.row_ok {P : Program} {f : Nat} {args : List (AV G)} {pre : AH G → Bool} {v : Nat → AV G} {cs : List (AV G)}
    (C : ∀ (e : Env G) (vs : Array Value) (w : World) (h : AH G), pre h = true → HR e h w → VRs e args vs.toList → Calls P f vs w fun en w' => ∃ v' b c t, en = .returned v' ∧ Below w.heap.size w w' ∧ w.heap.size ≤ b ∧ w'.heap[b]? = some (.cells c t (0, 0)) ∧
      (∀ (i : Nat) (a : AV G), cs[i]? = some a → ∃ v, c[i]? = some v ∧ VR e a v) ∧ ∀ e' id, e.le e' → e'.φ id = some (b, 0) → e'.room id = c.size → VR e' (v id) v') : (KE.row f args pre v cs).ok P := by
  intro h hp e vs w n R H hv hR
  refine callsIn_wide.2 ((C e vs w h hp H hv).mono fun en w' ⟨v', b, c, t, h1, h2, h3, h4, h5, h6⟩ => ?_)
  subst h1
  have S := St.allocAt H h2 cs c t b h3 h4 h5
  exact hR _ v' w' S (h6 _ _ S.le (Env.bind_same _ _ _ _) (Env.bind_room _ _ _ _))

/-- The memory that was there, object by object. -/
def hasF (id : Nat) (cs : List (AV G)) (h : AH G) : Bool :=
  match h.objs.get id with
  | some (.cells vs none) => samesA vs cs
  | _ => false

theorem hasF_spec {id : Nat} {cs : List (AV G)} {h : AH G} (k : hasF id cs h = true) : h.objs.get id = some (.cells cs none) := by
  unfold hasF at k
  split at k
  · rename_i vs hg; rw [samesA_eq k] at hg; exact hg
  · cases k
end Go.Ev

