import Derived.Test.YtdpegcimhhegmaaEvD
set_option linter.unusedVariables false
set_option linter.unusedSimpArgs false
set_option linter.unusedSectionVars false
noncomputable section
namespace Go.Ev
variable {G : Ctx}
section
variable (P : Program) (L : Look) (rp : Bool) (draw : ((Job G) → Option (Res G)) → Option Nat → Array Oper → (AAct G) → (AH G) → Option (Res G)) (self : (Job G) → Option (Res G))

def seqF (rd : Option Nat) (y : Code) : Option (Res G) → Option (Res G)
  | some (.at_ .normal a h) => self (.code rd y a h)
  | r => r

def condF (rd : Option Nat) (x y : Code) (a : (AAct G)) (h : (AH G)) : Option (AV G) → Option (Res G)
  | some (.bool true) => self (.code rd x a h)
  | some (.bool false) => self (.code rd y a h)
  | _ => none

def blockF (id : Nat) : Option (Res G) → Option (Res G)
  | some (.at_ (.exit id') a h) => some (.at_ (if id' = id then .normal else .exit id') a h)
  | r => r

def scopeF : Option (Res G) → Option (Res G)
  | some (.at_ (.goto _) _ _) => none
  | r => r

def rangeF3 (rd : Option Nat) (a2 : (AAct G)) (h3 : (AH G)) : Option Code → Option (Res G)
  | none => some (.at_ .normal a2 h3)
  | some c => self (.code rd c a2 h3)

def rangeF2 (rd : Option Nat) (a : (AAct G)) (next : Nat) (mark : List (ADf G)) (h2 : (AH G)) : Option (ALoop G) → Option (Res G)
  | some l => if l.state == .busy then none else rangeF3 self rd { a with defers := mark ++ a.defers } (h2.putO next (.loop { l with state := .exhausted })) l.pending
  | none => none

def rangeF1 (rd : Option Nat) (a : (AAct G)) (next : Nat) (mark : List (ADf G)) : Option (Res G) → Option (Res G)
  | some (.ret _ h2) => rangeF2 self rd a next mark h2 (getLoop h2 next)
  | some (.pan chain h2) => some (.at_ (.panic chain) { a with defers := mark ++ a.defers } h2)
  | _ => none

def rangeF (rd : Option Nat) (g : Operand) (ps : Array Tmp) (assign body : Code) (a : (AAct G)) (h : (AH G)) : Option (Res G) :=
      match rho a.tmps g with
      | some (.func (.func f) first cap) =>
        match L f with
        | some _ =>
            let go (h : (AH G)) (df : Nat) (mark : List (ADf G)) : Option (Res G) :=
              rangeF1 self rd a h.next mark (self (.call f (first ++ [.yield h.next] ++ cap) (h.allocO (.loop { state := .ready, pending := none, tmps := a.tmps, params := ps, assign, body, defers := df }))))
            match rd with
            | none => go (h.allocO (.defd (some []))) h.next [.mark h.next]
            | some l => match getLoop h l with
              | some r => go h r.defers []
              | none => none
        | none => none
      | _ => none

/-- An element of a list. -/
def nthL (l : List Oper) : Nat → Option Oper :=
  List.rec (motive := fun _ => Nat → Option Oper) (fun _ => none) (fun o _ ih k => Nat.rec (motive := fun _ => Option Oper) (some o) (fun n _ => ih n) k) l

theorem nthL_eq : ∀ (l : List Oper) (k : Nat), nthL l k = l[k]?
  | [], _ => by simp [nthL]
  | o :: l, 0 => rfl
  | o :: l, k + 1 => by
    have := nthL_eq l k
    simp only [List.getElem?_cons_succ]
    rw [← this]; rfl

/-- Is the operation carried out? -/
def wantL (ops : List Oper) (tm : (TT G)) (o : Oper) : Option Bool :=
  match o.guard with
  | none => some true
  | some (j, want) =>
    match (nthL ops j).bind (·.dst) with
    | some t => match getT tm t with
      | .bool b => some (b == want)
      | .tuple _ => some false
      | _ => none
    | none => some false

theorem wantL_eq (ops : Array Oper) (tm : TT G) (o : Oper) : wantL ops.toList tm o = wantA ops tm o := by
  unfold wantL wantA
  cases o.guard with
  | none => rfl
  | some g =>
    obtain ⟨j, b⟩ := g
    simp only [nthL_eq, Array.getElem?_toList]
    cases ops[j]?.bind (·.dst) <;> rfl

/-- What becomes of an operation, and of those behind it. -/
def resF (rd : Option Nat) (dst : Option Nat) (a : (AAct G)) (h0 : AH G) (K : AAct G → AH G → Option (Res G)) : Option (OpRes G) → Option (Res G)
  | some (.val v h) => K (putA a dst v) h
  | some (.call f args) => match self (.call f args h0) with
    | some (.ret v h) => K (putA a dst v) h
    | some (.pan chain h) => some (.at_ (.panic chain) a h)
    | _ => none
  | some (.round id args) => match self (.round id args h0) with
    | some (.ret v h) => K (putA a dst v) h
    | some (.pan chain h) => some (.at_ (.panic chain) a h)
    | _ => none
  | some (.dfr d) => match rd with
    | none => K (putA { a with defers := d :: a.defers } dst undefA) h0
    | some _ => none
  | some (.pan v) => some (.at_ (.panic [{ v, recovered := false }]) a h0)
  | none => none

def goF (rd : Option Nat) (o : Oper) (a : (AAct G)) (h : AH G) (K : AAct G → AH G → Option (Res G)) : Option Bool → Option (Res G)
  | some true => resF self rd o.dst a h K (opA P L a.tmps h o.op)
  | some false => K (putA a o.dst undefA) h
  | none => none

def actF (rd : Option Nat) (ops : List Oper) (o : Oper) (K : AAct G → AH G → Option (Res G)) (a : (AAct G)) (h : AH G) : Option (Res G) :=
  match aboutA L a.tmps o.op with
  | true => goF P L self rd o a h K (wantL ops a.tmps o)
  | false => none

def regF (rd : Option Nat) (ops : List Oper) (l : List Oper) : AAct G → AH G → Option (Res G) :=
  List.rec (motive := fun _ => AAct G → AH G → Option (Res G)) (fun a h => some (.at_ .normal a h)) (fun o _ ih => actF P L self rd ops o ih) l

def codeF (rd : Option Nat) (a : (AAct G)) (h : (AH G)) (c : Code) : Option (Res G) :=
    match c with
    | .skip | .label _ => some (.at_ .normal a h)
    | .region _ ops false => regF P L self rd ops.toList ops.toList a h
    | .region _ ops true => draw self rd ops a h
    | .seq x y => seqF self rd y (self (.code rd x a h))
    | .cond c x y => condF self rd x y a h (rho a.tmps c)
    | .block id x => blockF id (self (.code rd x a h))
    | .loop x => loopA self rd x loopMost a h
    | .scope x => scopeF (self (.code rd x a h))
    | .exit id => some (.at_ (.exit id) a h)
    | .goto l => some (.at_ (.goto l) a h)
    | .ret => some (.at_ .ret a h)
    | .rangeFunc g ps assign body => rangeF L self rd g ps assign body a h
    | _ => none

def leftM (fn : Func) (a : (AAct G)) (h : (AH G)) : Option FrameMode → Option (Res G)
  | some u => outA P fn a.tmps (leaveA P L self a.defers u h)
  | none => none

def leftF (fn : Func) : Option (Res G) → Option (Res G)
  | some (.at_ x a h) => leftM P L self fn a h (modeOf x)
  | _ => none

def funF (args : List (AV G)) (h : (AH G)) : Option (Func × Code) → Option (Res G)
  | some (fn, c) => leftF P L self fn (self (.code none c { tmps := ofT args fn.ntmps, defers := [] } h))
  | none => none

def stepF : (Job G) → Option (Res G)
  | .code rd c a h => codeF P L draw self rd a h c
  | .ops rd ops l a h => none
  | .call f args h => funF P L self args h (L f)
  | .round id args h => stepJ P L rp draw self (.round id args h)

end
section
variable {P : Program} {L : Look} {F0 : Fence} {rp : Bool} {draw : ((Job G) → Option (Res G)) → Option Nat → Array Oper → (AAct G) → (AH G) → Option (Res G)} {self : (Job G) → Option (Res G)}

open Classical in
/-- One operation, and those behind it. -/
theorem ops_cons (hB : FB P L F0 rp) (hd : DrawOK P F0 draw) (hs : SelfOK P F0 self) {rd : Option Nat} {ops : Array Oper} {i : Nat} {rest : List Nat} {o : Oper} (ho : ops[i]? = some o) {K : AAct G → AH G → Option (Res G)}
    (hK : ∀ a h r, K a h = some r → JobOK P F0 (.ops rd ops rest a h) r) {a : AAct G} {h : AH G} {r : Res G} (hr : actF P L self rd ops.toList o K a h = some r) : JobOK P F0 (.ops rd ops (i :: rest) a h) r := by
  let self' : Job G → Option (Res G) := fun j => match j with
    | .ops rd' ops' l a h => if rd' = rd ∧ ops' = ops ∧ l = rest then K a h else none
    | j => self j
  have hs' : SelfOK P F0 self' := by
    intro j r hj
    cases j with
    | ops rd' ops' l a h =>
      simp only [self'] at hj
      split at hj
      · rename_i hc
        obtain ⟨rfl, rfl, rfl⟩ := hc
        exact hK a h r hj
      · cases hj
    | code rd c a h => exact hs _ _ hj
    | call f args h => exact hs _ _ hj
    | round id args h => exact hs _ _ hj
  have hself : ∀ a h, self' (.ops rd ops rest a h) = K a h := fun a h => by simp [self']
  refine stepJ_sound hd hB hs' _ _ ?_
  unfold actF at hr
  simp only [stepJ, ho]
  cases hab : aboutA L a.tmps o.op with
  | false => rw [hab] at hr; cases hr
  | true =>
    rw [hab] at hr
    simp only at hr ⊢
    rw [wantL_eq] at hr
    cases hw : wantA ops a.tmps o with
    | none => rw [hw] at hr; cases hr
    | some b =>
      rw [hw] at hr
      cases b with
      | false => simp only [goF] at hr; simp only [hself]; exact hr
      | true =>
        simp only [goF] at hr
        cases hop : opA P L a.tmps h o.op with
        | none => rw [hop] at hr; cases hr
        | some x =>
          rw [hop] at hr
          cases x with
          | val v h1 => simp only [resF] at hr; simp only [hself]; exact hr
          | call f args => simp only [resF] at hr; simp only [hself]; exact hr
          | round id args => simp only [resF] at hr; simp only [hself]; exact hr
          | dfr d => simp only [resF] at hr; simp only [hself]; exact hr
          | pan v => simp only [resF] at hr; exact hr

theorem regF_sound (hB : FB P L F0 rp) (hd : DrawOK P F0 draw) (hs : SelfOK P F0 self) {rd : Option Nat} {ops : Array Oper} : ∀ (l : List Oper) (i : Nat), (∀ k o, l[k]? = some o → ops[i + k]? = some o) → ∀ {a : AAct G} {h : AH G} {r : Res G},
    regF P L self rd ops.toList l a h = some r → JobOK P F0 (.ops rd ops (List.range' i l.length) a h) r
  | [], i, _, a, h, r, hr => by
    change some (Res.at_ .normal a h) = some r at hr
    cases hr
    exact fun e a w F n Q H hA hF hQ => hQ e a w (St.refl H) hA
  | o :: l, i, ho, a, h, r, hr => by
    have h0 : ops[i]? = some o := ho 0 o rfl
    rw [List.length_cons, List.range'_succ]
    refine ops_cons hB hd hs h0 (K := regF P L self rd ops.toList l) (fun a h r hk => ?_) hr
    exact regF_sound hB hd hs l (i + 1) (fun k o hk => by
      have := ho (k + 1) o (by simpa using hk)
      rwa [show i + 1 + k = i + (k + 1) from by omega]) hk

theorem stepF_sound (hB : FB P L F0 rp) (hd : DrawOK P F0 draw) (hs : SelfOK P F0 self) : SelfOK P F0 (stepF P L rp draw self) := by
  intro j r hj
  cases j with
  | ops rd ops l a h => cases hj
  | round id args h => exact stepJ_sound hd hB hs _ _ hj
  | call f args h =>
    refine stepJ_sound hd hB hs _ _ ?_
    simp only [stepF] at hj
    simp only [stepJ]
    unfold funF at hj
    cases hL : L f with
    | none => rw [hL] at hj; cases hj
    | some p =>
      rw [hL] at hj
      obtain ⟨fn, c⟩ := p
      simp only at hj ⊢
      unfold leftF leftM at hj
      exact hj
  | code rd c a h =>
    cases c with
    | region i ops d =>
      cases d with
      | true => exact stepJ_sound hd hB hs _ _ hj
      | false =>
        have k := regF_sound hB hd hs (rd := rd) (ops := ops) ops.toList 0 (fun k o hk => by simpa using hk) hj
        have hl : List.range' 0 ops.toList.length = List.range ops.size := by simp [List.range_eq_range']
        rw [hl] at k
        obtain ⟨x, a', h', rfl⟩ := k.ops_res
        exact fun e a w F n Q H hA hF hQ => wpIn_region (k e a w F n Q H hA hF hQ)
    | seq x y =>
      refine stepJ_sound hd hB hs _ _ ?_
      simp only [stepF, codeF] at hj
      simp only [stepJ]
      unfold seqF at hj; exact hj
    | cond c x y =>
      refine stepJ_sound hd hB hs _ _ ?_
      simp only [stepF, codeF] at hj
      simp only [stepJ]
      unfold condF at hj; exact hj
    | block id x =>
      refine stepJ_sound hd hB hs _ _ ?_
      simp only [stepF, codeF] at hj
      simp only [stepJ]
      unfold blockF at hj; exact hj
    | scope x =>
      refine stepJ_sound hd hB hs _ _ ?_
      simp only [stepF, codeF] at hj
      simp only [stepJ]
      unfold scopeF at hj; exact hj
    | rangeFunc g ps assign body =>
      refine stepJ_sound hd hB hs _ _ ?_
      simp only [stepF, codeF, rangeF, rangeF1, rangeF2, rangeF3] at hj
      simp only [stepJ]
      exact hj
    | skip => exact stepJ_sound hd hB hs _ _ hj
    | label l => exact stepJ_sound hd hB hs _ _ hj
    | loop x => exact stepJ_sound hd hB hs _ _ hj
    | exit id => exact stepJ_sound hd hB hs _ _ hj
    | goto l => exact stepJ_sound hd hB hs _ _ hj
    | ret => exact stepJ_sound hd hB hs _ _ hj
    | refuse why => cases hj
end
end Go.Ev
end

noncomputable section
namespace Go.Ev
open Go.RowKit

/-! ### Values behind which no memory stands, in whatever context -/
mutual
def AV.free {G : Ctx} : AV G → Bool
  | .bool _ | .int _ _ | .str _ | .nilp | .nils | .nilm | .nilf | .nili | .opq _ | .sx _ _ _ => true
  | .agg cs => AV.frees cs
  | .tuple cs => AV.frees cs
  | .iface _ a => AV.free a
  | .func _ f c => AV.frees f && AV.frees c
  | _ => false
def AV.frees {G : Ctx} : List (AV G) → Bool
  | [] => true
  | a :: r => AV.free a && AV.frees r
end

mutual
def AV.to {G : Ctx} (G' : Ctx) : AV G → AV G'
  | .bool b => .bool b
  | .int k n => .int k n
  | .str s => .str s
  | .ptr i o => .ptr i o
  | .nilp => .nilp
  | .slice a b c d e => .slice a b c d e
  | .nils => .nils
  | .map i => .map i
  | .nilm => .nilm
  | .func fn f c => .func fn (AV.tos G' f) (AV.tos G' c)
  | .yield i => .yield i
  | .nilf => .nilf
  | .iface t a => .iface t (AV.to G' a)
  | .nili => .nili
  | .agg cs => .agg (AV.tos G' cs)
  | .tuple cs => .tuple (AV.tos G' cs)
  | .opq k => .opq k
  | .sx x l u => .sx x l u
def AV.tos {G : Ctx} (G' : Ctx) : List (AV G) → List (AV G')
  | [] => []
  | a :: r => AV.to G' a :: AV.tos G' r
end

variable {G G' : Ctx}
theorem AV.tos_get : ∀ {l : List (AV G)} {i : Nat} {a : AV G'}, (AV.tos G' l)[i]? = some a → ∃ b, l[i]? = some b ∧ a = b.to G'
  | [], i, a, h => by simp [AV.tos] at h
  | b :: l, 0, a, h => by simp [AV.tos] at h; exact ⟨b, rfl, h.symm⟩
  | b :: l, i + 1, a, h => by simp [AV.tos] at h; simpa using AV.tos_get h

/-- The same places, the same values. -/
structure Env.alike (e : Env G) (e' : Env G') : Prop where
  opq : e.opq = e'.opq
  φ : e.φ = e'.φ
  room : e.room = e'.room

mutual
theorem VR.to {e : Env G} {e' : Env G'} (ho : e.alike e') : ∀ (a : AV G) (v : Value), (VR e a v ↔ VR e' (a.to G') v)
  | .bool _, _ => by simp only [VR, AV.to]
  | .int _ _, _ => by simp only [VR, AV.to]
  | .str _, _ => by simp only [VR, AV.to]
  | .nilp, _ => by simp only [VR, AV.to]
  | .nils, _ => by simp only [VR, AV.to]
  | .nilm, _ => by simp only [VR, AV.to]
  | .nilf, _ => by simp only [VR, AV.to]
  | .nili, _ => by simp only [VR, AV.to]
  | .opq _, _ => by simp only [VR, AV.to, ho.opq]
  | .sx _ _ _, _ => by simp only [VR, AV.to, ho.opq]
  | .ptr _ _, _ => by simp only [VR, AV.to, ho.φ]
  | .slice _ _ _ _ _, _ => by simp only [VR, AV.to, ho.φ, ho.room]
  | .map _, _ => by simp only [VR, AV.to, ho.φ]
  | .yield _, _ => by simp only [VR, AV.to, ho.φ]
  | .func fn f c, v => by
    simp only [VR, AV.to]
    exact ⟨fun ⟨x, y, h1, h2, h3⟩ => ⟨x, y, h1, (VRs.to ho f _).1 h2, (VRs.to ho c _).1 h3⟩, fun ⟨x, y, h1, h2, h3⟩ => ⟨x, y, h1, (VRs.to ho f _).2 h2, (VRs.to ho c _).2 h3⟩⟩
  | .agg cs, v => by
    simp only [VR, AV.to]
    exact ⟨fun ⟨xs, h1, h2⟩ => ⟨xs, h1, (VRs.to ho cs _).1 h2⟩, fun ⟨xs, h1, h2⟩ => ⟨xs, h1, (VRs.to ho cs _).2 h2⟩⟩
  | .tuple cs, v => by
    simp only [VR, AV.to]
    exact ⟨fun ⟨xs, h1, h2⟩ => ⟨xs, h1, (VRs.to ho cs _).1 h2⟩, fun ⟨xs, h1, h2⟩ => ⟨xs, h1, (VRs.to ho cs _).2 h2⟩⟩
  | .iface t a, v => by
    simp only [VR, AV.to]
    exact ⟨fun ⟨x, h1, h2⟩ => ⟨x, h1, (VR.to ho a x).1 h2⟩, fun ⟨x, h1, h2⟩ => ⟨x, h1, (VR.to ho a x).2 h2⟩⟩
theorem VRs.to {e : Env G} {e' : Env G'} (ho : e.alike e') : ∀ (a : List (AV G)) (v : List Value), (VRs e a v ↔ VRs e' (AV.tos G' a) v)
  | [], _ => by simp only [VRs, AV.tos]
  | a :: as, v => by
    simp only [VRs, AV.tos]
    exact ⟨fun ⟨x, xs, h1, h2, h3⟩ => ⟨x, xs, h1, (VR.to ho a x).1 h2, (VRs.to ho as xs).1 h3⟩,
      fun ⟨x, xs, h1, h2, h3⟩ => ⟨x, xs, h1, (VR.to ho a x).2 h2, (VRs.to ho as xs).2 h3⟩⟩
end

mutual
/-- Values without memory hang on the names alone. -/
theorem VR.free {e e' : Env G} (ho : e.opq = e'.opq) : ∀ (a : AV G) (v : Value), a.free = true → VR e a v → VR e' a v
  | .bool _, _, _, hv => by simpa only [VR] using hv
  | .int _ _, _, _, hv => by simpa only [VR] using hv
  | .str _, _, _, hv => by simpa only [VR] using hv
  | .nilp, _, _, hv => by simpa only [VR] using hv
  | .nils, _, _, hv => by simpa only [VR] using hv
  | .nilm, _, _, hv => by simpa only [VR] using hv
  | .nilf, _, _, hv => by simpa only [VR] using hv
  | .nili, _, _, hv => by simpa only [VR] using hv
  | .opq _, _, _, hv => by simp only [VR] at hv ⊢; rw [← ho]; exact hv
  | .sx _ _ _, _, _, hv => by simp only [VR] at hv ⊢; rw [← ho]; exact hv
  | .ptr _ _, _, h, _ => by simp [AV.free] at h
  | .slice _ _ _ _ _, _, h, _ => by simp [AV.free] at h
  | .map _, _, h, _ => by simp [AV.free] at h
  | .yield _, _, h, _ => by simp [AV.free] at h
  | .func _ f c, v, h, hv => by
    simp only [AV.free, Bool.and_eq_true] at h
    simp only [VR] at hv ⊢
    obtain ⟨x, y, h1, h2, h3⟩ := hv
    exact ⟨x, y, h1, VRs.free ho f _ h.1 h2, VRs.free ho c _ h.2 h3⟩
  | .agg cs, v, h, hv => by
    simp only [AV.free] at h
    simp only [VR] at hv ⊢
    obtain ⟨xs, h1, h2⟩ := hv
    exact ⟨xs, h1, VRs.free ho cs _ h h2⟩
  | .tuple cs, v, h, hv => by
    simp only [AV.free] at h
    simp only [VR] at hv ⊢
    obtain ⟨xs, h1, h2⟩ := hv
    exact ⟨xs, h1, VRs.free ho cs _ h h2⟩
  | .iface t a, v, h, hv => by
    simp only [AV.free] at h
    simp only [VR] at hv ⊢
    obtain ⟨x, h1, h2⟩ := hv
    exact ⟨x, h1, VR.free ho a x h h2⟩
theorem VRs.free {e e' : Env G} (ho : e.opq = e'.opq) : ∀ (a : List (AV G)) (v : List Value), AV.frees a = true → VRs e a v → VRs e' a v
  | [], _, _, hv => by simpa only [VRs] using hv
  | a :: as, v, h, hv => by
    simp only [AV.frees, Bool.and_eq_true] at h
    simp only [VRs] at hv ⊢
    obtain ⟨x, xs, h1, h2, h3⟩ := hv
    exact ⟨x, xs, h1, VR.free ho a x h.1 h2, VRs.free ho as xs h.2 h3⟩
end
end Go.Ev
end

noncomputable section
namespace Go.Ev
variable {G : Ctx}
open Go.RowKit

/-! ### Memory that was there -/
def frnO : List (List (AV G)) → Nat → Tr (AObj G)
  | [], _ => .nil
  | c :: r, i => (frnO r (i + 1)).set i (.cells c none)

theorem frnO_get : ∀ {l : List (List (AV G))} {i j : Nat} {o : AObj G}, (frnO l i).get j = some o → ∃ k vs, j = i + k ∧ l[k]? = some vs ∧ o = .cells vs none
  | [], i, j, o, h => by simp [frnO, Tr.get_nil] at h
  | c :: r, i, j, o, h => by
    unfold frnO at h
    by_cases hj : j = i
    · subst hj; rw [Tr.get_set_same] at h; cases h; exact ⟨0, c, rfl, rfl, rfl⟩
    · rw [Tr.get_set_other _ _ hj] at h
      obtain ⟨k, vs, h1, h2, h3⟩ := frnO_get h
      exact ⟨k + 1, vs, by omega, by simpa using h2, h3⟩

def frnH (l : List (List (AV G))) : AH G := ⟨frnO l 0, .nil, l.length, 0⟩

structure Plc where
  b : Nat
  o : Nat
  room : Nat

def frnEnv (F0 : Fence) (o : Nat → Value) (h1 : ∀ k, (o k).oneCell' = true) (hG : G.holds o) (l : List Plc) (n : Nat) : Env G :=
  { φ := fun i => (l[i]?).map fun p => (p.b, p.o), opq := o, base := n, room := fun i => ((l[i]?).map (·.room)).getD 0, fnok := F0.fn, one := h1, holds := hG }

theorem HR.frn {F0 : Fence} {o : Nat → Value} {h1 : ∀ k, (o k).oneCell' = true} {hG : G.holds o} {w : World} (cs : List (List (AV G))) (ps : List Plc) (hlen : ps.length = cs.length)
    (hc : ∀ (i : Nat) (c : List (AV G)) (p : Plc), cs[i]? = some c → ps[i]? = some p → p.b < w.heap.size ∧ ∀ (j : Nat) (a : AV G), c[j]? = some a → ∃ v, w.cell? ⟨p.b, p.o + j, none⟩ = some v ∧ VR (frnEnv F0 o h1 hG ps w.heap.size) a v) :
    HR (frnEnv F0 o h1 hG ps w.heap.size) (frnH cs) w := by
  have hget : ∀ {id ob}, (frnH cs).objs.get id = some ob → ∃ vs, cs[id]? = some vs ∧ ob = .cells vs none := fun h => by
    obtain ⟨k, vs, h1, h2, h3⟩ := frnO_get h
    rw [Nat.zero_add] at h1; subst h1
    exact ⟨vs, h2, h3⟩
  refine ⟨fun id ob ho => ?_, fun i j oi oj b x y _ hi _ hoi _ _ _ => ?_, fun id vs g ho => ?_, fun g st h => by simp [frnH, Tr.get_nil] at h, fun id hid => ?_, fun id hid => ?_, fun g _ => by simp [frnH, Tr.get_nil],
    fun g st id h => by simp [frnH, Tr.get_nil] at h, Nat.le_refl _⟩
  · obtain ⟨vs, h2, rfl⟩ := hget ho
    have hlt : id < ps.length := by rw [hlen]; exact (List.getElem?_eq_some_iff.1 h2).1
    have hp : ps[id]? = some ps[id] := List.getElem?_eq_getElem hlt
    obtain ⟨k1, k2⟩ := hc id vs _ h2 hp
    exact ⟨ps[id].b, ps[id].o, by simp [frnEnv, hp], k1, k2⟩
  · obtain ⟨vs, _, rfl⟩ := hget hi; cases hoi
  · obtain ⟨vs', _, h3⟩ := hget ho; cases h3
  · cases ho : (frnH cs).objs.get id with
    | none => rfl
    | some ob =>
      obtain ⟨vs, h2, _⟩ := hget ho
      have := (List.getElem?_eq_some_iff.1 h2).1
      have hid' : cs.length ≤ id := hid
      omega
  · have hid' : cs.length ≤ id := hid
    show (ps[id]?).map _ = none
    rw [List.getElem?_eq_none (by omega)]; rfl
end Go.Ev
end

noncomputable section
namespace Go.Ev
variable {G : Ctx}
open Go.RowKit

/-! ### Patterns: what stands for the names of a contract at a call -/
abbrev Sub := Tr SV

def svI (n : Int) : SV := ⟨.c n, n, n⟩

/-- What is reckoned at once. -/
def mkF (G : Ctx) (op : Nat) (a b : SV) : Option SV :=
  match a.x, b.x with
  | .c m, .c n => some (svI (sxOp op m n))
  | _, _ => mkS G op a b

def evalS (G : Ctx) (s : Sub) (x : SX) : Option SV :=
  SX.rec (motive := fun _ => Option SV) (fun n => some (svI n)) (fun i => s.get i)
    (fun op _ _ ia ib => match ia with
      | some p => match ib with
        | some q => mkF G op p q
        | none => none
      | none => none) x

/-- The values that stand. -/
def stand (s : Sub) (o : Nat → Value) (i : Nat) : Value :=
  match s.get i with
  | some v => .int .i64 (v.x.eval o)
  | none => .int .i64 0

def Sub.ok (s : Sub) (o : Nat → Value) : Prop := ∀ i v, s.get i = some v → v.ok o
def Sub.le (s s' : Sub) : Prop := ∀ i v, s.get i = some v → s'.get i = some v
theorem Sub.le_refl (s : Sub) : Sub.le s s := fun _ _ h => h
theorem Sub.le_trans {a b c : Sub} (h : Sub.le a b) (k : Sub.le b c) : Sub.le a c := fun i v hv => k i v (h i v hv)

theorem stand_one (s : Sub) (o : Nat → Value) (i : Nat) : (stand s o i).oneCell' = true := by
  unfold stand; split <;> rfl

theorem mkF_sound {o : Nat → Value} (hG : G.holds o) {op : Nat} {a b r : SV} (h : mkF G op a b = some r) (ha : a.ok o) (hb : b.ok o) : r.x.eval o = sxOp op (a.x.eval o) (b.x.eval o) ∧ r.ok o := by
  unfold mkF at h
  split at h
  · rename_i m n h1 h2
    cases h
    rw [h1, h2]
    exact ⟨rfl, Int.le_refl _, Int.le_refl _⟩
  · exact mkS_sound hG h ha hb

theorem evalS_sound {o : Nat → Value} (hG : G.holds o) {s : Sub} (hs : s.ok o) : ∀ {x : SX} {r : SV}, evalS G s x = some r → r.x.eval o = x.eval (stand s o) ∧ r.ok o
  | .c n, r, h => by
    change some (svI n) = some r at h
    cases h
    exact ⟨rfl, Int.le_refl _, Int.le_refl _⟩
  | .v i, r, h => by
    change s.get i = some r at h
    refine ⟨?_, hs i r h⟩
    simp [SX.eval, stand, h, valI]
  | .bin op a b, r, h => by
    change (match evalS G s a with
      | some p => match evalS G s b with
        | some q => mkF G op p q
        | none => none
      | none => none) = some r at h
    split at h
    · rename_i p hp
      split at h
      · rename_i q hq
        obtain ⟨h1, h2⟩ := evalS_sound hG hs hp
        obtain ⟨h3, h4⟩ := evalS_sound hG hs hq
        obtain ⟨h5, h6⟩ := mkF_sound hG h h2 h4
        exact ⟨by rw [h5, h1, h3]; rfl, h6⟩
      · cases h
    · cases h

/-- A name is bound. -/
def bindV (s : Sub) (i : Nat) (a : SV) (lo hi : Int) : Option Sub :=
  match leI lo a.lo, leI a.hi hi with
  | true, true => match s.get i with
    | some b => match SX.same b.x a.x with
      | true => some s
      | false => none
    | none => some (s.set i a)
  | _, _ => none

theorem bindV_sound {s s' : Sub} {i : Nat} {a : SV} {lo hi : Int} (h : bindV s i a lo hi = some s') : s.le s' ∧ (∃ v, s'.get i = some v ∧ v.x = a.x) ∧ lo ≤ a.lo ∧ a.hi ≤ hi ∧ (∀ o, s.ok o → a.ok o → s'.ok o) := by
  unfold bindV at h
  split at h
  · rename_i h1 h2
    refine (fun k => ⟨k.1, k.2.1, leI_true h1, leI_true h2, k.2.2⟩ : (s.le s' ∧ (∃ v, s'.get i = some v ∧ v.x = a.x) ∧ (∀ o, s.ok o → a.ok o → s'.ok o)) → _) ?_
    split at h
    · rename_i b hb
      split at h
      · rename_i hs; cases h; exact ⟨Sub.le_refl _, ⟨b, hb, SX.same_eq hs⟩, fun o h _ => h⟩
      · cases h
    · rename_i hb
      cases h
      refine ⟨fun j v hv => ?_, ⟨a, Tr.get_set_same _ _ _, rfl⟩, fun o ho ha j v hv => ?_⟩
      · by_cases hj : j = i
        · subst hj; rw [hb] at hv; cases hv
        · rw [Tr.get_set_other _ _ hj]; exact hv
      · by_cases hj : j = i
        · subst hj; rw [Tr.get_set_same] at hv; cases hv; exact ha
        · rw [Tr.get_set_other _ _ hj] at hv; exact ho j v hv
  · cases h

/-- The same function, nothing captured. -/
def sameF (fn : Fn) (f c : List (AV plain)) (gn : Fn) (g d : List (AV G)) : Bool :=
  match fn, f, c with
  | .func a, [], [] => match gn, g, d with
    | .func b, [], [] => Nat.beq a b
    | _, _, _ => false
  | _, _, _ => false

theorem sameF_spec {fn : Fn} {f c : List (AV plain)} {gn : Fn} {g d : List (AV G)} (h : sameF fn f c gn g d = true) : ∃ a, fn = .func a ∧ f = [] ∧ c = [] ∧ gn = .func a ∧ g = [] ∧ d = [] := by
  unfold sameF at h
  split at h
  · split at h
    · rename_i a b; exact ⟨_, rfl, rfl, rfl, by rw [Nat.eq_of_beq_eq_true h], rfl, rfl⟩
    · cases h
  · cases h

mutual
/-- Does a value fit a pattern, and what do the names stand for then? -/
def matchA : AV plain → AV G → Sub → Option Sub
  | .sx (.v i) lo hi, a, s => match a.sv with
    | some v => bindV s i v lo hi
    | none => none
  | .bool b, .bool c, s => match b == c with | true => some s | false => none
  | .int k n, .int l m, s => match k == l && eqI n m with | true => some s | false => none
  | .nils, .nils, s => some s
  | .nilp, .nilp, s => some s
  | .nilf, .nilf, s => some s
  | .nilm, .nilm, s => some s
  | .nili, .nili, s => some s
  | .agg ps, .agg as, s => matchAs ps as s
  | .func fn f c, .func gn g d, s => match sameF fn f c gn g d with | true => some s | false => none
  | _, _, _ => none
def matchAs : List (AV plain) → List (AV G) → Sub → Option Sub
  | [], [], s => some s
  | p :: ps, a :: as, s => match matchA p a s with
    | some s => matchAs ps as s
    | none => none
  | _, _, _ => none
end

/-- A pattern's value at the names that stand. -/
def Stands (s : Sub) (o : Nat → Value) (p : AV plain) (v : Value) : Prop := ∀ (s' : Sub), s.le s' → ∀ e0 : Env plain, e0.opq = stand s' o → VR e0 p v
def StandsAll (s : Sub) (o : Nat → Value) (p : List (AV plain)) (v : List Value) : Prop := ∀ (s' : Sub), s.le s' → ∀ e0 : Env plain, e0.opq = stand s' o → VRs e0 p v

theorem sv_val {e : Env G} {a : AV G} {v : SV} (h : a.sv = some v) {x : Value} (hx : VR e a x) : x = .int .i64 (v.x.eval e.opq) ∧ v.ok e.opq := sv_sound h hx

theorem keep {e : Env G} {s : Sub} {p : AV plain} {a : AV G} (h : ∀ x, VR e a x → ∀ e0 : Env plain, VR e0 p x) : s.le s ∧ (s.ok e.opq → ∀ x, VR e a x → s.ok e.opq ∧ Stands s e.opq p x) :=
  ⟨Sub.le_refl _, fun hs x hx => ⟨hs, fun _ _ e0 _ => h x hx e0⟩⟩

mutual
theorem matchA_sound {e : Env G} : ∀ (p : AV plain) (a : AV G) {s s' : Sub}, matchA p a s = some s' → s.le s' ∧ (s.ok e.opq → ∀ x, VR e a x → s'.ok e.opq ∧ Stands s' e.opq p x)
  | .sx q lo hi, a, s, s', h => by
    cases q with
    | c n => simp [matchA] at h
    | bin o x y => simp [matchA] at h
    | v i =>
      simp only [matchA] at h
      split at h
      · rename_i v hv
        obtain ⟨h1, ⟨u, h2, h2'⟩, h3, h4, h5⟩ := bindV_sound h
        refine ⟨h1, fun hs x hx => ?_⟩
        obtain ⟨k1, k2⟩ := sv_val hv hx
        refine ⟨h5 _ hs k2, fun s2 hle e0 he0 => ?_⟩
        simp only [VR, SX.eval, he0]
        have hst : stand s2 e.opq i = .int .i64 (v.x.eval e.opq) := by simp [stand, hle i u h2, h2']
        rw [hst]
        exact ⟨k1, by have := k2.1; simp only [valI]; omega, by have := k2.2; simp only [valI]; omega⟩
      · cases h
  | .bool b, a, s, s', h => by
    cases a with
    | bool c =>
      simp only [matchA] at h
      split at h
      · rename_i hb; cases h
        exact keep fun x hx e0 => by simp only [VR] at hx ⊢; rw [hx, eq_of_beq hb]
      · cases h
    | _ => simp [matchA] at h
  | .int k n, a, s, s', h => by
    cases a with
    | int l m =>
      simp only [matchA] at h
      split at h
      · rename_i hb; cases h
        simp only [Bool.and_eq_true] at hb
        exact keep fun x hx e0 => by simp only [VR] at hx ⊢; rw [hx, eq_of_beq hb.1, eqI_eq hb.2]
      · cases h
    | _ => simp [matchA] at h
  | .nils, a, s, s', h => by
    cases a with
    | nils => simp only [matchA] at h; cases h; exact keep fun x hx e0 => by simpa only [VR] using hx
    | _ => simp [matchA] at h
  | .nilp, a, s, s', h => by
    cases a with
    | nilp => simp only [matchA] at h; cases h; exact keep fun x hx e0 => by simpa only [VR] using hx
    | _ => simp [matchA] at h
  | .nilf, a, s, s', h => by
    cases a with
    | nilf => simp only [matchA] at h; cases h; exact keep fun x hx e0 => by simpa only [VR] using hx
    | _ => simp [matchA] at h
  | .nilm, a, s, s', h => by
    cases a with
    | nilm => simp only [matchA] at h; cases h; exact keep fun x hx e0 => by simpa only [VR] using hx
    | _ => simp [matchA] at h
  | .nili, a, s, s', h => by
    cases a with
    | nili => simp only [matchA] at h; cases h; exact keep fun x hx e0 => by simpa only [VR] using hx
    | _ => simp [matchA] at h
  | .agg ps, a, s, s', h => by
    cases a with
    | agg as =>
      simp only [matchA] at h
      obtain ⟨h1, h2⟩ := matchAs_sound ps as (e := e) h
      refine ⟨h1, fun hs x hx => ?_⟩
      simp only [VR] at hx
      obtain ⟨xs, rfl, hx⟩ := hx
      obtain ⟨k1, k2⟩ := h2 hs _ hx
      refine ⟨k1, fun s2 hle e0 he0 => ?_⟩
      simp only [VR]
      exact ⟨xs, rfl, k2 s2 hle e0 he0⟩
    | _ => simp [matchA] at h
  | .func fn f c, a, s, s', h => by
    cases a with
    | func gn g d =>
      simp only [matchA] at h
      split at h
      · rename_i hb; cases h
        obtain ⟨a, rfl, rfl, rfl, rfl, rfl, rfl⟩ := sameF_spec hb
        exact keep fun x hx e0 => by simp only [VR, VRs] at hx ⊢; exact hx
      · cases h
    | _ => simp [matchA] at h
  | .str _, a, s, s', h => by cases a <;> simp [matchA] at h
  | .ptr _ _, a, s, s', h => by cases a <;> simp [matchA] at h
  | .slice _ _ _ _ _, a, s, s', h => by cases a <;> simp [matchA] at h
  | .map _, a, s, s', h => by cases a <;> simp [matchA] at h
  | .yield _, a, s, s', h => by cases a <;> simp [matchA] at h
  | .iface _ _, a, s, s', h => by cases a <;> simp [matchA] at h
  | .tuple _, a, s, s', h => by cases a <;> simp [matchA] at h
  | .opq _, a, s, s', h => by cases a <;> simp [matchA] at h
theorem matchAs_sound {e : Env G} : ∀ (p : List (AV plain)) (a : List (AV G)) {s s' : Sub}, matchAs p a s = some s' → s.le s' ∧ (s.ok e.opq → ∀ x, VRs e a x → s'.ok e.opq ∧ StandsAll s' e.opq p x)
  | [], a, s, s', h => by
    cases a with
    | nil =>
      simp only [matchAs] at h; cases h
      exact ⟨Sub.le_refl _, fun hs x hx => ⟨hs, fun _ _ _ _ => by simpa only [VRs] using hx⟩⟩
    | cons b as => simp [matchAs] at h
  | p :: ps, a, s, s', h => by
    cases a with
    | nil => simp [matchAs] at h
    | cons a as =>
      simp only [matchAs] at h
      split at h
      · rename_i s1 h1
        obtain ⟨k1, k2⟩ := matchA_sound p a (e := e) h1
        obtain ⟨k3, k4⟩ := matchAs_sound ps as (e := e) h
        refine ⟨Sub.le_trans k1 k3, fun hs x hx => ?_⟩
        simp only [VRs] at hx
        obtain ⟨v, vs, rfl, hv, hvs⟩ := hx
        obtain ⟨q1, q2⟩ := k2 hs _ hv
        obtain ⟨q3, q4⟩ := k4 q1 _ hvs
        refine ⟨q3, fun s2 hle e0 he0 => ?_⟩
        simp only [VRs]
        exact ⟨v, vs, rfl, q2 s2 (Sub.le_trans k3 hle) e0 he0, q4 s2 hle e0 he0⟩
      · cases h
end
end Go.Ev
end

noncomputable section
namespace Go.Ev
variable {G : Ctx}
open Go.RowKit

/-- Nothing below the heap's end has changed. -/
theorem St.of_below {e : Env G} {h : AH G} {w w' : World} (H : HR e h w) (b : Below w.heap.size w w') : St e h w e h w' := by
  have hblk : ∀ b' x id o, h.objs.get id = some o → o.owned = true → e.φ id = some (b', x) → b' < w.heap.size := fun b' x id o h1 h2 h3 => (H.obj _ _ h1).block_lt h2 h3
  refine ⟨.refl e, ⟨fun id o ho => ?_, H.sep, H.grp, H.ord, H.fresh, H.freshφ, H.freshg, H.gsmall, Nat.le_trans H.base b.size⟩, b.os, b.tape, b.output, b.size, fun r hr _ => b.block r hr, fun _ _ h => h, Nat.le_refl _, fun _ _ h => h⟩
  have hO := H.obj id o ho
  cases o with
  | cells vs g =>
    cases g with
    | some g => exact hO.same (fun b' x hx => b.block b' (hblk b' x id _ ho rfl hx))
    | none =>
      have hO' := hO
      obtain ⟨b', x', h1, h2, _⟩ := hO'
      exact hO.same (fun b'' x hx => by rw [h1] at hx; cases hx; exact b.block b' (by have := H.base; omega))
  | map es => exact hO.same (fun b' x hx => b.block b' (hblk b' x id _ ho rfl hx))
  | loop l => exact hO.same (fun b' x hx => b.block b' (hblk b' x id _ ho rfl hx))
  | defd ds => exact hO.same (fun b' x hx => b.block b' (hblk b' x id _ ho rfl hx))
  | dead => trivial

/-! ### Calls that are answered by what was proved of them -/
abbrev Oracle (G : Ctx) := Nat → List (AV G) → AH G → Option (Res G)

def Oracle.ok (P : Program) (F0 : Fence) (T : Oracle G) : Prop := ∀ f args h r, T f args h = some r → JobOK P F0 (.call f args h) r

def answerK (r : Option (Res G)) : Option (Res G) → Option (Res G)
  | some k => some k
  | none => r

def stepK (P : Program) (L : Look) (rp : Bool) (T : Oracle G) (draw : (Job G → Option (Res G)) → Option Nat → Array Oper → AAct G → AH G → Option (Res G)) (self : Job G → Option (Res G)) : Job G → Option (Res G)
  | .code rd c a h => codeF P L draw self rd a h c
  | .ops rd ops l a h => none
  | .call f args h => answerK (funF P L self args h (L f)) (T f args h)
  | .round id args h => stepJ P L rp draw self (.round id args h)

def evK (P : Program) (L : Look) (rp : Bool) (T : Oracle G) (draw : (Job G → Option (Res G)) → Option Nat → Array Oper → AAct G → AH G → Option (Res G)) (n : Nat) : Job G → Option (Res G) := Nat.rec (fun _ => none) (fun _ self => stepK P L rp T draw self) n

theorem evK_sound {P : Program} {L : Look} {F0 : Fence} {rp : Bool} (hB : FB P L F0 rp) {T : Oracle G} (hT : T.ok P F0) : ∀ n, SelfOK P F0 (evK P L rp T (drawA P L) n)
  | 0 => fun _ _ h => by cases h
  | n + 1 => by
    intro j r h
    have ih := evK_sound hB hT n
    have step : ∀ j r, stepF P L rp (drawA P L) (evK P L rp T (drawA P L) n) j = some r → JobOK P F0 j r := fun j r h => stepF_sound hB (drawA_ok hB) ih j r h
    change stepK P L rp T (drawA P L) (evK P L rp T (drawA P L) n) j = some r at h
    cases j with
    | code rd c a hh => exact step _ _ h
    | ops rd ops l a hh => exact step _ _ h
    | round id args hh => exact step (.round id args hh) _ h
    | call f args hh =>
      change answerK _ (T f args hh) = some r at h
      cases hf : T f args hh with
      | none => rw [hf] at h; exact step (.call f args hh) _ h
      | some k => rw [hf] at h; cases h; exact hT _ _ _ _ hf

/-! ### Contracts -/
/-- What a call comes to. -/
inductive RV where
  | ret (v : AV plain)
  | pan (chain : List PanicEntry)

/-- A call: its function, a row of cells that is there ahead of it (object 0), its arguments, what it comes to. -/
structure KC where
  f : Nat
  obj : Option (List (AV plain)) := none
  args : List (AV plain)
  res : RV

def RV.free : RV → Bool
  | .ret v => v.free
  | .pan _ => true

def RV.to (G : Ctx) : RV → AH G → Res G
  | .ret v, h => .ret (v.to G) h
  | .pan c, h => .pan c h

def IsValue (o : Nat → Value) (a : AV plain) (v : Value) : Prop := ∃ (e : Env plain), e.opq = o ∧ VR e a v

def RV.says (o : Nat → Value) : RV → Ending → Prop
  | .ret v, en => ∃ v', en = .returned v' ∧ IsValue o v v'
  | .pan c, en => en = .panicked c

def objL {α : Type} : Option α → List α
  | some c => [c]
  | none => []

/-- The memory that the contract speaks of is there. -/
def There (w : World) (e0 : Env plain) (ps : List Plc) (obj : Option (List (AV plain))) : Prop :=
  ps.length = (objL obj).length ∧ (∀ i, e0.φ i = (ps[i]?).map fun p => (p.b, p.o)) ∧ (∀ i, e0.room i = ((ps[i]?).map (·.room)).getD 0) ∧
  ∀ c p, obj = some c → ps = [p] → p.b < w.heap.size ∧ ∀ j a, c[j]? = some a → ∃ v, w.cell? ⟨p.b, p.o + j, none⟩ = some v ∧ VR e0 a v

/-- The contract: wherever H holds of the names. -/
def Con (P : Program) (F0 : Fence) (H : (Nat → Value) → Prop) (k : KC) : Prop :=
  ∀ (o : Nat → Value), (∀ i, (o i).oneCell' = true) → H o → ∀ (e0 : Env plain) (ps : List Plc) (vs : Array Value) (w : World) (n : Nat), e0.opq = o → There w e0 ps k.obj → VRs e0 k.args vs.toList →
    CallsIn F0 n P k.f vs w fun en w' => k.res.says o en ∧ Below w.heap.size w w'

theorem Con.mono {P : Program} {F0 : Fence} {H H' : (Nat → Value) → Prop} {k : KC} (h : Con P F0 H k) (hH : ∀ o, H' o → H o) : Con P F0 H' k :=
  fun o h1 ho => h o h1 (hH o ho)

/-- A call without memory. -/
def KC.free (k : KC) : Bool := (match k.obj with | none => true | some _ => false) && AV.frees k.args && k.res.free

theorem says_job {P : Program} {F0 : Fence} {k : RV} {f : Nat} {args : List (AV G)} {h : AH G} {o : Nat → Value} (hf : k.free = true)
    (C : ∀ (e : Env G) (vs : Array Value) (w : World) (n : Nat), e.fnok = F0.fn → HR e h w → VRs e args vs.toList → CallsIn F0 n P f vs w fun en w' => k.says e.opq en ∧ Below w.heap.size w w') :
    JobOK P F0 (.call f args h) (k.to G h) := by
  cases k with
  | ret v =>
    simp only [RV.to]
    intro e vs w n R hE Hh hv hR
    refine (C e vs w n hE Hh hv).mono fun en w' ⟨h1, h2⟩ => ?_
    obtain ⟨v', rfl, e2, h3, h4⟩ := h1
    refine hR e v' w' (St.of_below Hh h2) ?_
    have h4' := VR.free (e' := (⟨e.φ, e.opq, e.base, e.room, e.fnok, e.one, plain_holds _⟩ : Env plain)) h3 v v' hf h4
    exact (VR.to (G := plain) (G' := G) ⟨rfl, rfl, rfl⟩ v v').1 h4'
  | pan c =>
    simp only [RV.to]
    intro e vs w n R hE Hh hv hR
    refine (C e vs w n hE Hh hv).mono fun en w' ⟨h1, h2⟩ => ?_
    cases (show en = .panicked c from h1)
    exact hR e w' (St.of_below Hh h2)

/-- Contracts that speak of the very names, as answers. -/
def ansC (G : Ctx) : List KC → Oracle G :=
  List.rec (fun _ _ _ => none) (fun k _ ih f args h => Bool.rec (ih f args h) (Bool.rec (ih f args h) (some (k.res.to G h)) (samesA (AV.tos G k.args) args)) (Nat.beq k.f f))

theorem ansC_ok {P : Program} {F0 : Fence} {H : (Nat → Value) → Prop} (hG : ∀ o, G.holds o → H o) : ∀ (T : List KC), (∀ k ∈ T, k.free = true ∧ Con P F0 H k) → (ansC G T).ok P F0
  | [], _ => fun _ _ _ _ h => by cases h
  | k :: T, hT => by
    intro f args h r hr
    have ih := ansC_ok hG T (fun k hk => hT k (List.mem_cons_of_mem _ hk))
    change (Bool.rec (ansC G T f args h) (Bool.rec (ansC G T f args h) (some (k.res.to G h)) (samesA (AV.tos G k.args) args)) (Nat.beq k.f f) : Option (Res G)) = some r at hr
    cases h1 : Nat.beq k.f f with
    | false => rw [h1] at hr; exact ih f args h r hr
    | true =>
      rw [h1] at hr
      cases h2 : samesA (AV.tos G k.args) args with
      | false => rw [h2] at hr; exact ih f args h r hr
      | true =>
        rw [h2] at hr
        cases hr
        have hf := Nat.eq_of_beq_eq_true h1
        have ha := samesA_eq h2
        subst hf ha
        obtain ⟨hfree, hcon⟩ := hT k (List.mem_cons_self ..)
        simp only [KC.free, Bool.and_eq_true] at hfree
        obtain ⟨⟨ho, hfa⟩, hfr⟩ := hfree
        have hobj : k.obj = none := by
          split at ho
          · assumption
          · cases ho
        refine says_job (o := fun _ => undef) hfr (fun e vs w n hE Hh hv => ?_)
        let e1 : Env plain := ⟨e.φ, e.opq, e.base, e.room, e.fnok, e.one, plain_holds _⟩
        let e0 : Env plain := ⟨fun _ => none, e.opq, 0, fun _ => 0, fun _ => True, e.one, plain_holds _⟩
        refine hcon e.opq e.one (hG _ e.holds) e0 [] vs w n rfl ⟨by simp [hobj, objL], fun i => by simp [e0], fun i => by simp [e0], fun c p hc => by rw [hobj] at hc; cases hc⟩ ?_
        exact VRs.free (e := e1) (e' := e0) rfl k.args _ hfa ((VRs.to (e := e1) (e' := e) ⟨rfl, rfl, rfl⟩ k.args _).2 hv)

/-! ### Contracts for whatever stands for their names -/
structure KP where
  k : KC
  names : List (SX × Nat × Int × Int) := []
  lts : List (SX × SX × Bool) := []
  eqs : List (SX × SX × Bool) := []

def KP.ctx (p : KP) : Ctx := ⟨p.names, p.lts, p.eqs, fun _ => True⟩

def slicePat : AV plain → Option (Nat × Nat)
  | .slice id off len sz g => match id, off, g with
    | 0, 0, true => some (len, sz)
    | _, _, _ => none
  | _ => none

theorem slicePat_some {p : AV plain} {len sz : Nat} (h : slicePat p = some (len, sz)) : p = .slice 0 0 len sz true := by
  unfold slicePat at h
  split at h
  · split at h
    · cases h; rfl
    · cases h
  · cases h

def readPat (h : AH G) (cells : List (AV plain)) (len : Nat) (a : AV G) (s : Sub) : Option Sub :=
  match a with
  | .slice id off l _ _ => match Nat.beq len l with
    | true => match h.read id off cells.length with
      | some cs => matchAs cells cs s
      | none => none
    | false => none
  | _ => none

def matchM (h : AH G) (obj : Option (List (AV plain))) : List (AV plain) → List (AV G) → Bool → Sub → Option Sub
  | [], [], u, s => match obj, u with
    | some _, false => none
    | _, _ => some s
  | p :: ps, a :: as, u, s => match slicePat p with
    | some r => match u, obj with
      | false, some cells => match readPat h cells r.1 a s with
        | some s => matchM h obj ps as true s
        | none => none
      | _, _ => none
    | none => match matchA p a s with
      | some s => matchM h obj ps as u s
      | none => none
  | _, _, _, _ => none

/-- What is known of the rest of the arguments. -/
def Fits (w : World) (s : Sub) (o : Nat → Value) (obj : Option (List (AV plain))) (u : Bool) (ps : List (AV plain)) (vs : List Value) : Prop :=
  match obj, u with
  | some cells, false => ∃ p : Plc, p.b < w.heap.size ∧ ∀ s2, s.le s2 → ∀ e0 : Env plain, e0.opq = stand s2 o → e0.φ 0 = some (p.b, p.o) → e0.room 0 = p.room →
      VRs e0 ps vs ∧ ∀ j a, cells[j]? = some a → ∃ v, w.cell? ⟨p.b, p.o + j, none⟩ = some v ∧ VR e0 a v
  | _, _ => StandsAll s o ps vs

theorem matchM_sound {e : Env G} {h : AH G} {w : World} (H : HR e h w) {obj : Option (List (AV plain))} : ∀ (ps : List (AV plain)) (as : List (AV G)) {u : Bool} {s s' : Sub}, matchM h obj ps as u s = some s' →
    s.le s' ∧ (s.ok e.opq → ∀ vs, VRs e as vs → s'.ok e.opq ∧ Fits w s' e.opq obj u ps vs)
  | [], as, u, s, s', hm => by
    cases as with
    | cons a as => simp [matchM] at hm
    | nil =>
      simp only [matchM] at hm
      have key : s = s' ∧ ¬ (∃ c, obj = some c ∧ u = false) := by
        split at hm
        · cases hm
        · rename_i hne
          cases hm
          exact ⟨rfl, fun ⟨c, h1, h2⟩ => hne c h1 h2⟩
      obtain ⟨rfl, hne⟩ := key
      refine ⟨Sub.le_refl _, fun hs vs hv => ⟨hs, ?_⟩⟩
      unfold Fits
      split
      · exact absurd ⟨_, rfl, rfl⟩ hne
      · exact fun _ _ _ _ => by simpa only [VRs] using hv
  | p :: ps, as, u, s, s', hm => by
    cases as with
    | nil => simp [matchM] at hm
    | cons a as =>
      simp only [matchM] at hm
      split at hm
      · rename_i r hp
        obtain ⟨len, sz⟩ := r
        have hp := slicePat_some hp
        subst hp
        split at hm
        · rename_i cells
          split at hm
          · rename_i s1 hr
            unfold readPat at hr
            split at hr
            · rename_i id off l c g
              split at hr
              · rename_i hl
                have hl := Nat.eq_of_beq_eq_true hl
                subst hl
                split at hr
                · rename_i cs hcs
                  obtain ⟨k1, k2⟩ := matchAs_sound cells cs (e := e) hr
                  obtain ⟨k3, k4⟩ := matchM_sound H ps as hm
                  refine ⟨Sub.le_trans k1 k3, fun hs vs hv => ?_⟩
                  simp only [VRs] at hv
                  obtain ⟨v, vs', rfl, hv1, hv2⟩ := hv
                  obtain ⟨b, x, cap, hφ, rfl, hle, _, _⟩ := hv1.slice
                  obtain ⟨hlen, vals, hvals, hrange⟩ := read_sound H hcs hφ
                  obtain ⟨q1, q2⟩ := k2 hs _ hvals
                  obtain ⟨q3, q4⟩ := k4 q1 _ hv2
                  refine ⟨q3, ?_⟩
                  have hb : b < w.heap.size := by
                    unfold AH.read at hcs
                    split at hcs
                    · rename_i ws gg hid
                      have hO := H.obj _ _ hid
                      cases gg with
                      | some gg => exact hO.block_lt rfl hφ
                      | none =>
                        obtain ⟨b', o', h1, h2, _⟩ := hO
                        rw [hφ] at h1; cases h1
                        have := H.base; omega
                    · cases hcs
                  refine ⟨⟨b, x + off, cap * sz⟩, hb, fun s2 hle2 e0 he0 hφ0 hr0 => ⟨?_, fun j y hj => ?_⟩⟩
                  · simp only [VRs]
                    refine ⟨_, _, rfl, ?_, ?_⟩
                    · simp only [VR]
                      exact ⟨b, x + off, cap, hφ0, by simp, hle, by simp, fun _ _ => by rw [hr0]; exact Nat.le_refl _⟩
                    · have q4' : StandsAll s' e.opq ps vs' := by
                        have : Fits w s' e.opq (some cells) true ps vs' := q4
                        exact this
                      exact q4' s2 hle2 e0 he0
                  · have hst := q2 s2 (Sub.le_trans k3 hle2) e0 he0
                    obtain ⟨v, hv3, hv4⟩ := hst.get hj
                    exact ⟨v, hrange j v hv3, hv4⟩
                · cases hr
              · cases hr
            · cases hr
          · cases hm
        · cases hm
      · rename_i hp
        split at hm
        · rename_i s1 h1
          obtain ⟨k1, k2⟩ := matchA_sound p a (e := e) h1
          obtain ⟨k3, k4⟩ := matchM_sound H ps as hm
          refine ⟨Sub.le_trans k1 k3, fun hs vs hv => ?_⟩
          simp only [VRs] at hv
          obtain ⟨v, vs', rfl, hv1, hv2⟩ := hv
          obtain ⟨q1, q2⟩ := k2 hs _ hv1
          obtain ⟨q3, q4⟩ := k4 q1 _ hv2
          refine ⟨q3, ?_⟩
          unfold Fits at q4 ⊢
          split at q4
          · obtain ⟨pl, hb, q4⟩ := q4
            refine ⟨pl, hb, fun s2 hle2 e0 he0 hφ0 hr0 => ?_⟩
            obtain ⟨q5, q6⟩ := q4 s2 hle2 e0 he0 hφ0 hr0
            refine ⟨?_, q6⟩
            simp only [VRs]
            exact ⟨v, vs', rfl, q2 s2 (Sub.le_trans k3 hle2) e0 he0, q5⟩
          · refine fun s2 hle2 e0 he0 => ?_
            simp only [VRs]
            exact ⟨v, vs', rfl, q2 s2 (Sub.le_trans k3 hle2) e0 he0, q4 s2 hle2 e0 he0⟩
        · cases hm

/-- The contract's own names are bound. -/
def addNames (G : Ctx) : List (SX × Nat × Int × Int) → Sub → Option Sub
  | [], s => some s
  | (x, k, lo, hi) :: r, s => match evalS G s x with
    | some v => match s.get k with
      | none => match leI lo v.lo, leI v.hi hi with
        | true, true => addNames G r (s.set k v)
        | _, _ => none
      | some _ => none
    | none => none

theorem Sub.le_set {s : Sub} {k : Nat} {v : SV} (h : s.get k = none) : s.le (s.set k v) := fun i u hu => by
  by_cases hi : i = k
  · subst hi; rw [h] at hu; cases hu
  · rw [Tr.get_set_other _ _ hi]; exact hu

theorem evalS_mono {s s' : Sub} (h : s.le s') : ∀ {x : SX} {v : SV}, evalS G s x = some v → evalS G s' x = some v
  | .c _, _, hx => hx
  | .v i, v, hx => h i v hx
  | .bin op a b, v, hx => by
    change (match evalS G s a with | some p => (match evalS G s b with | some q => mkF G op p q | none => none) | none => none) = some v at hx
    change (match evalS G s' a with | some p => (match evalS G s' b with | some q => mkF G op p q | none => none) | none => none) = some v
    split at hx
    · rename_i p hp
      split at hx
      · rename_i q hq
        rw [evalS_mono h hp, evalS_mono h hq]; exact hx
      · cases hx
    · cases hx

theorem addNames_sound {o : Nat → Value} (hG : G.holds o) : ∀ {l : List (SX × Nat × Int × Int)} {s s' : Sub}, addNames G l s = some s' → s.ok o →
    s.le s' ∧ s'.ok o ∧ ∀ x k lo hi, (x, k, lo, hi) ∈ l → x.eval (stand s' o) = valI (stand s' o k) ∧ lo ≤ valI (stand s' o k) ∧ valI (stand s' o k) ≤ hi
  | [], s, s', h, hs => by
    simp only [addNames] at h; cases h
    exact ⟨Sub.le_refl _, hs, fun _ _ _ _ h => by cases h⟩
  | (x, k, lo, hi) :: r, s, s', h, hs => by
    simp only [addNames] at h
    split at h
    · rename_i v hv
      split at h
      · rename_i hk
        split at h
        · rename_i h1 h2
          have hle := Sub.le_set (v := v) hk
          obtain ⟨e1, e2⟩ := evalS_sound hG hs hv
          have hs1 : Sub.ok (Tr.set s k v) o := fun i u hu => by
            by_cases hi : i = k
            · subst hi; rw [Tr.get_set_same] at hu; cases hu; exact e2
            · rw [Tr.get_set_other _ _ hi] at hu; exact hs i u hu
          obtain ⟨k1, k2, k3⟩ := addNames_sound hG h hs1
          refine ⟨Sub.le_trans hle k1, k2, fun x' k' lo' hi' hm => ?_⟩
          rcases List.mem_cons.1 hm with hm | hm
          · cases hm
            have hk' : s'.get k = some v := k1 k v (Tr.get_set_same _ _ _)
            have hst : valI (stand s' o k) = v.x.eval o := by simp [stand, hk', valI]
            have hx := (evalS_sound hG k2 (evalS_mono (Sub.le_trans hle k1) hv)).1
            rw [hst]
            have := leI_true h1; have := leI_true h2; have := e2.1; have := e2.2
            exact ⟨hx.symm, by omega, by omega⟩
          · exact k3 _ _ _ _ hm
        · cases h
      · cases h
    · cases h

def ltsHold (G : Ctx) (s : Sub) : List (SX × SX × Bool) → Bool
  | [] => true
  | (x, y, b) :: r => (match evalS G s x, evalS G s y with
    | some p, some q => match ltS G p q with
      | some c => c == b
      | none => false
    | _, _ => false) && ltsHold G s r

def eqsHold (G : Ctx) (s : Sub) : List (SX × SX × Bool) → Bool
  | [] => true
  | (x, y, b) :: r => (match evalS G s x, evalS G s y with
    | some p, some q => match eqS G p q with
      | some c => c == b
      | none => false
    | _, _ => false) && eqsHold G s r

theorem ltsHold_sound {o : Nat → Value} (hG : G.holds o) {s : Sub} (hs : s.ok o) : ∀ {l : List (SX × SX × Bool)}, ltsHold G s l = true → ∀ x y b, (x, y, b) ∈ l → decide (x.eval (stand s o) < y.eval (stand s o)) = b
  | [], _, _, _, _, h => by cases h
  | (x, y, b) :: r, h, x', y', b', hm => by
    simp only [ltsHold, Bool.and_eq_true] at h
    rcases List.mem_cons.1 hm with hm | hm
    · cases hm
      have h1 := h.1
      split at h1
      · rename_i p q hp hq
        split at h1
        · rename_i c hc
          obtain ⟨e1, e2⟩ := evalS_sound hG hs hp
          obtain ⟨e3, e4⟩ := evalS_sound hG hs hq
          have := ltS_sound hG hc e2 e4
          rw [e1, e3] at this
          rw [this, eq_of_beq h1]
        · cases h1
      · cases h1
    · exact ltsHold_sound hG hs h.2 _ _ _ hm

theorem eqsHold_sound {o : Nat → Value} (hG : G.holds o) {s : Sub} (hs : s.ok o) : ∀ {l : List (SX × SX × Bool)}, eqsHold G s l = true → ∀ x y b, (x, y, b) ∈ l → decide (x.eval (stand s o) = y.eval (stand s o)) = b
  | [], _, _, _, _, h => by cases h
  | (x, y, b) :: r, h, x', y', b', hm => by
    simp only [eqsHold, Bool.and_eq_true] at h
    rcases List.mem_cons.1 hm with hm | hm
    · cases hm
      have h1 := h.1
      split at h1
      · rename_i p q hp hq
        split at h1
        · rename_i c hc
          obtain ⟨e1, e2⟩ := evalS_sound hG hs hp
          obtain ⟨e3, e4⟩ := evalS_sound hG hs hq
          have := eqS_sound hG hc e2 e4
          rw [e1, e3] at this
          rw [this, eq_of_beq h1]
        · cases h1
      · cases h1
    · exact eqsHold_sound hG hs h.2 _ _ _ hm

def SV.toA (v : SV) : AV G :=
  match v.x with
  | .c n => .int .i64 n
  | _ => .sx v.x v.lo v.hi

mutual
/-- What a result stands for. -/
def resS (G : Ctx) (s : Sub) : AV plain → Option (AV G)
  | .sx x lo hi => match evalS G s x with
    | some v => some v.toA
    | none => none
  | .bool b => some (.bool b)
  | .int k n => some (.int k n)
  | .nils => some .nils
  | .agg cs => match ressS G s cs with
    | some l => some (.agg l)
    | none => none
  | .tuple cs => match ressS G s cs with
    | some l => some (.tuple l)
    | none => none
  | _ => none
def ressS (G : Ctx) (s : Sub) : List (AV plain) → Option (List (AV G))
  | [] => some []
  | a :: r => match resS G s a, ressS G s r with
    | some b, some l => some (b :: l)
    | _, _ => none
end

mutual
theorem resS_sound {o : Nat → Value} (hG : G.holds o) {s : Sub} (hs : s.ok o) {e0 : Env plain} (he0 : e0.opq = stand s o) {e : Env G} (he : e.opq = o) : ∀ (a : AV plain) {b : AV G}, resS G s a = some b → ∀ v, VR e0 a v → VR e b v
  | .sx x lo hi, b, h, v, hv => by
    simp only [resS] at h
    split at h
    · rename_i r hr
      cases h
      obtain ⟨e1, e2⟩ := evalS_sound hG hs hr
      simp only [VR, he0] at hv
      rw [← e1] at hv
      unfold SV.toA
      split
      · rename_i n hn
        rw [hn] at hv
        simp only [VR]
        exact hv.1
      · simp only [VR, he]
        exact ⟨hv.1, e2.1, e2.2⟩
    · cases h
  | .bool _, b, h, v, hv => by simp only [resS] at h; cases h; simpa only [VR] using hv
  | .int _ _, b, h, v, hv => by simp only [resS] at h; cases h; simpa only [VR] using hv
  | .nils, b, h, v, hv => by simp only [resS] at h; cases h; simpa only [VR] using hv
  | .agg cs, b, h, v, hv => by
    simp only [resS] at h
    split at h
    · rename_i l hl
      cases h
      simp only [VR] at hv ⊢
      obtain ⟨xs, h1, h2⟩ := hv
      exact ⟨xs, h1, ressS_sound hG hs he0 he cs hl _ h2⟩
    · cases h
  | .tuple cs, b, h, v, hv => by
    simp only [resS] at h
    split at h
    · rename_i l hl
      cases h
      simp only [VR] at hv ⊢
      obtain ⟨xs, h1, h2⟩ := hv
      exact ⟨xs, h1, ressS_sound hG hs he0 he cs hl _ h2⟩
    · cases h
  | .str _, b, h, v, hv => by simp [resS] at h
  | .ptr _ _, b, h, v, hv => by simp [resS] at h
  | .nilp, b, h, v, hv => by simp [resS] at h
  | .slice _ _ _ _ _, b, h, v, hv => by simp [resS] at h
  | .map _, b, h, v, hv => by simp [resS] at h
  | .nilm, b, h, v, hv => by simp [resS] at h
  | .func _ _ _, b, h, v, hv => by simp [resS] at h
  | .yield _, b, h, v, hv => by simp [resS] at h
  | .nilf, b, h, v, hv => by simp [resS] at h
  | .iface _ _, b, h, v, hv => by simp [resS] at h
  | .nili, b, h, v, hv => by simp [resS] at h
  | .opq _, b, h, v, hv => by simp [resS] at h
theorem ressS_sound {o : Nat → Value} (hG : G.holds o) {s : Sub} (hs : s.ok o) {e0 : Env plain} (he0 : e0.opq = stand s o) {e : Env G} (he : e.opq = o) : ∀ (a : List (AV plain)) {b : List (AV G)}, ressS G s a = some b → ∀ v, VRs e0 a v → VRs e b v
  | [], b, h, v, hv => by simp only [ressS] at h; cases h; simpa only [VRs] using hv
  | a :: r, b, h, v, hv => by
    simp only [ressS] at h
    split at h
    · rename_i x l hx hl
      cases h
      simp only [VRs] at hv ⊢
      obtain ⟨y, ys, rfl, h1, h2⟩ := hv
      exact ⟨y, ys, rfl, resS_sound hG hs he0 he a hx y h1, ressS_sound hG hs he0 he r hl ys h2⟩
    · cases h
end

def outP (G : Ctx) (s : Sub) (h : AH G) : RV → Option (Res G)
  | .ret v => match resS G s v with
    | some b => some (.ret b h)
    | none => none
  | .pan c => some (.pan c h)

def ansP1 (G : Ctx) (p : KP) (args : List (AV G)) (h : AH G) : Option (Res G) :=
  match matchM h p.k.obj p.k.args args false .nil with
  | some s => match addNames G p.names s with
    | some s => match ltsHold G s p.lts, eqsHold G s p.eqs with
      | true, true => outP G s h p.k.res
      | _, _ => none
    | none => none
  | none => none

theorem ansP1_ok {P : Program} {F0 : Fence} {p : KP} (hf : p.k.res.free = true) (hc : Con P F0 p.ctx.holds p.k) {args : List (AV G)} {h : AH G} {r : Res G} (hr : ansP1 G p args h = some r) : JobOK P F0 (.call p.k.f args h) r := by
  unfold ansP1 at hr
  split at hr
  · rename_i s0 hm
    split at hr
    · rename_i s hn
      split at hr
      · rename_i hl he
        -- the values that stand
        have core : ∀ (e : Env G) (vs : Array Value) (w : World) (n : Nat), e.fnok = F0.fn → HR e h w → VRs e args vs.toList → s.ok e.opq ∧ CallsIn F0 n P p.k.f vs w fun en w' => p.k.res.says (stand s e.opq) en ∧ Below w.heap.size w w' := by
          intro e vs w n hE Hh hv
          obtain ⟨k1, k2⟩ := matchM_sound Hh p.k.args args hm
          have hs0 : Sub.ok (.nil : Sub) e.opq := fun i v h => by simp [Tr.get_nil] at h
          obtain ⟨q1, q2⟩ := k2 hs0 _ hv
          obtain ⟨n1, n2, n3⟩ := addNames_sound e.holds hn q1
          refine ⟨n2, ?_⟩
          have hH : p.ctx.holds (stand s e.opq) := ⟨n3, ltsHold_sound e.holds n2 hl, eqsHold_sound e.holds n2 he, trivial⟩
          cases ho : p.k.obj with
          | none =>
            rw [ho] at q2
            let e0 : Env plain := ⟨fun _ => none, stand s e.opq, 0, fun _ => 0, fun _ => True, stand_one _ _, plain_holds _⟩
            refine hc _ (stand_one _ _) hH e0 [] vs w n rfl ⟨by simp [ho, objL], fun i => by simp [e0], fun i => by simp [e0], fun c p hc => by rw [ho] at hc; cases hc⟩ ?_
            exact q2 s n1 e0 rfl
          | some cells =>
            rw [ho] at q2
            obtain ⟨pl, hb, q2⟩ := q2
            let e0 : Env plain := ⟨fun i => if i = 0 then some (pl.b, pl.o) else none, stand s e.opq, 0, fun i => if i = 0 then pl.room else 0, fun _ => True, stand_one _ _, plain_holds _⟩
            obtain ⟨q3, q4⟩ := q2 s n1 e0 rfl (by simp [e0]) (by simp [e0])
            refine hc _ (stand_one _ _) hH e0 [pl] vs w n rfl ⟨by simp [ho, objL], fun i => ?_, fun i => ?_, fun c p' hc hp => ?_⟩ q3
            · cases i <;> simp [e0]
            · cases i <;> simp [e0]
            · rw [ho] at hc; cases hc; cases hp; exact ⟨hb, q4⟩
        cases hk : p.k.res with
        | ret v =>
          rw [hk] at hr
          unfold outP at hr
          simp only at hr
          split at hr
          · rename_i b hb
            cases hr
            intro e vs w n R hE Hh hv hR
            obtain ⟨hs, hcall⟩ := core e vs w n hE Hh hv
            refine hcall.mono fun en w' ⟨h1, h2⟩ => ?_
            rw [hk] at h1
            obtain ⟨v', rfl, e2, h3, h4⟩ := h1
            exact hR e v' w' (St.of_below Hh h2) (resS_sound e.holds hs h3 rfl v hb v' h4)
          · cases hr
        | pan c =>
          rw [hk] at hr
          unfold outP at hr
          cases hr
          intro e vs w n R hE Hh hv hR
          obtain ⟨hs, hcall⟩ := core e vs w n hE Hh hv
          refine hcall.mono fun en w' ⟨h1, h2⟩ => ?_
          rw [hk] at h1
          cases (show en = .panicked c from h1)
          exact hR e w' (St.of_below Hh h2)
      · cases hr
    · cases hr
  · cases hr

def ansP (G : Ctx) : List KP → Oracle G :=
  List.rec (fun _ _ _ => none) (fun p _ ih f args h => Bool.rec (ih f args h) (answerK (ih f args h) (ansP1 G p args h)) (Nat.beq p.k.f f))

theorem ansP_ok {P : Program} {F0 : Fence} : ∀ (S : List KP), (∀ p ∈ S, p.k.res.free = true ∧ Con P F0 p.ctx.holds p.k) → (ansP G S).ok P F0
  | [], _ => fun _ _ _ _ h => by cases h
  | p :: S, hS => by
    intro f args h r hr
    have ih := ansP_ok S (fun q hq => hS q (List.mem_cons_of_mem _ hq))
    change (Bool.rec (ansP G S f args h) (answerK (ansP G S f args h) (ansP1 G p args h)) (Nat.beq p.k.f f) : Option (Res G)) = some r at hr
    cases h1 : Nat.beq p.k.f f with
    | false => rw [h1] at hr; exact ih f args h r hr
    | true =>
      rw [h1] at hr
      change answerK (ansP G S f args h) (ansP1 G p args h) = some r at hr
      have hf := Nat.eq_of_beq_eq_true h1
      cases h2 : ansP1 G p args h with
      | none => rw [h2] at hr; exact ih f args h r hr
      | some r' =>
        rw [h2] at hr
        cases hr
        subst hf
        obtain ⟨q1, q2⟩ := hS p (List.mem_cons_self ..)
        exact ansP1_ok q1 q2 h2

/-- Both kinds of contracts. -/
def ora (G : Ctx) (T : List KC) (S : List KP) : Oracle G := fun f args h => answerK (ansP G S f args h) (ansC G T f args h)

theorem ora_ok {P : Program} {F0 : Fence} {H : (Nat → Value) → Prop} (hG : ∀ o, G.holds o → H o) {T : List KC} {S : List KP} (hT : ∀ k ∈ T, k.free = true ∧ Con P F0 H k) (hS : ∀ p ∈ S, p.k.res.free = true ∧ Con P F0 p.ctx.holds p.k) :
    (ora G T S).ok P F0 := by
  intro f args h r hr
  unfold ora at hr
  cases h1 : ansC G T f args h with
  | some k => rw [h1] at hr; cases hr; exact ansC_ok hG T hT _ _ _ _ h1
  | none => rw [h1] at hr; exact ansP_ok S hS _ _ _ _ hr

/-! ### Contracts by running -/
/-- A call was gone through, and this is what it came to. -/
def isRes (k : RV) : Option (Res G) → Bool
  | some (.ret v _) => match k with
    | .ret v0 => sameA v (v0.to G)
    | .pan _ => false
  | some (.pan c _) => match k, c with
    | .pan [d], [e] => match d.v, e.v with
      | .iface t (.agg a), .iface t' (.agg a') => Nat.beq t t' && Nat.beq a.size 0 && Nat.beq a'.size 0 && !d.recovered && !e.recovered && !d.goexit && !e.goexit
      | _, _ => false
    | _, _ => false
  | _ => false

def fuelK : Nat := 200000

/-- The contract's call, in a context, all else empty. -/
def runK (P : Program) (L : Look) (rp : Bool) (T : List KC) (S : List KP) (G : Ctx) (k : KC) : Option (Res G) :=
  evK P L rp (ora G T S) (drawA P L) fuelK (.call k.f (AV.tos G k.args) (frnH (objL (k.obj.map (AV.tos G)))))

theorem con_of_run {P : Program} {L : Look} {F0 : Fence} {rp : Bool} (hB : FB P L F0 rp) {H : (Nat → Value) → Prop} {T : List KC} {S : List KP} {k : KC} (hf : k.res.free = true) (hT : ∀ c ∈ T, c.free = true ∧ Con P F0 H c)
    (hS : ∀ p ∈ S, p.k.res.free = true ∧ Con P F0 p.ctx.holds p.k) (hG : ∀ o, G.holds o → H o) (hr : isRes k.res (runK P L rp T S G k) = true) : Con P F0 G.holds k := by
  have hs : SelfOK (G := G) P F0 (evK P L rp (ora G T S) (drawA P L) fuelK) := evK_sound hB (ora_ok hG hT hS) fuelK
  -- the world of the run
  have start : ∀ (o : Nat → Value) (h1 : ∀ i, (o i).oneCell' = true) (ho : G.holds o) (e0 : Env plain) (ps : List Plc) (vs : Array Value) (w : World), e0.opq = o → There w e0 ps k.obj → VRs e0 k.args vs.toList →
      HR (frnEnv F0 o h1 ho ps w.heap.size) (frnH (objL (k.obj.map (AV.tos G)))) w ∧ VRs (frnEnv F0 o h1 ho ps w.heap.size) (AV.tos G k.args) vs.toList := by
    intro o h1 ho e0 ps vs w he ⟨t1, t2, t3, t4⟩ hv
    have al : e0.alike (frnEnv F0 o h1 ho ps w.heap.size) := ⟨he, funext t2, funext t3⟩
    refine ⟨HR.frn _ _ ?_ (fun i c p hc hp => ?_), (VRs.to al k.args _).1 hv⟩
    · rw [t1]; cases k.obj <;> rfl
    · cases hk : k.obj with
      | none => rw [hk] at hc; simp [objL] at hc
      | some cs =>
        rw [hk] at hc t1
        simp only [objL, Option.map_some] at hc
        cases i with
        | succ i => simp at hc
        | zero =>
          simp at hc; subst hc
          obtain ⟨q, rfl⟩ : ∃ q, ps = [q] := by
            match ps, t1 with
            | [q], _ => exact ⟨q, rfl⟩
          simp at hp; subst hp
          obtain ⟨t5, t6⟩ := t4 cs q hk rfl
          refine ⟨t5, fun j a ha => ?_⟩
          obtain ⟨b, hb, rfl⟩ := AV.tos_get ha
          obtain ⟨v, hv1, hv2⟩ := t6 j b hb
          exact ⟨v, hv1, (VR.to al b v).1 hv2⟩
  unfold isRes at hr
  split at hr
  · rename_i v hh hev
    cases hk : k.res with
    | pan c => rw [hk] at hr; cases hr
    | ret v0 =>
      rw [hk] at hr
      have hv0 : v0.free = true := by rw [hk] at hf; exact hf
      have hsame := sameA_eq hr
      subst hsame
      have kj := hs _ _ hev
      intro o h1 ho e0 ps vs w n he ht hv
      obtain ⟨HE, HV⟩ := start o h1 ho e0 ps vs w he ht hv
      refine kj _ vs w n _ rfl HE HV (fun e' v' w' S hvr => ⟨?_, S.below HE⟩)
      rw [hk]
      refine ⟨v', rfl, ⟨e'.φ, o, 0, e'.room, fun _ => True, h1, plain_holds _⟩, rfl, ?_⟩
      exact (VR.to (G := plain) (G' := G) ⟨by have := S.le.opq; exact this.symm, rfl, rfl⟩ v0 v').2 hvr
  · rename_i c hh hev
    split at hr
    · rename_i d e hk
      split at hr
      · rename_i t a t' a' hd he'
        simp only [Bool.and_eq_true, Bool.not_eq_true'] at hr
        obtain ⟨⟨⟨⟨⟨⟨r1, r2⟩, r3⟩, r4⟩, r5⟩, r6⟩, r7⟩ := hr
        have ede : d = e := by
          obtain ⟨dv, dr, dg⟩ := d
          obtain ⟨ev, er, eg⟩ := e
          simp only at hd he' r4 r5 r6 r7
          rw [hd, he', r4, r5, r6, r7, Nat.eq_of_beq_eq_true r1, Array.eq_empty_of_size_eq_zero (Nat.eq_of_beq_eq_true r2), Array.eq_empty_of_size_eq_zero (Nat.eq_of_beq_eq_true r3)]
        subst ede
        have kj := hs _ _ hev
        intro o h1 ho e0 ps vs w n he ht hv
        obtain ⟨HE, HV⟩ := start o h1 ho e0 ps vs w he ht hv
        refine kj _ vs w n _ rfl HE HV (fun e' w' S => ⟨?_, S.below HE⟩)
        rw [hk]
        rfl
      · cases hr
    · cases hr
  · cases hr

/-! ### Cases -/
inductive CT where
  | leaf
  | out
  | lt (x y : SX) (t f : CT)
  | eq (x y : SX) (t f : CT)
  deriving Inhabited

def addLt (G : Ctx) (x y : SX) (b : Bool) : Ctx := { G with lts := (x, y, b) :: G.lts }
def addEq (G : Ctx) (x y : SX) (b : Bool) : Ctx := { G with eqs := (x, y, b) :: G.eqs }

theorem addLt_holds {G : Ctx} {x y : SX} {b : Bool} {o : Nat → Value} (h : G.holds o) (hb : decide (x.eval o < y.eval o) = b) : (addLt G x y b).holds o :=
  ⟨h.names, fun x' y' b' hm => by
    rcases List.mem_cons.1 hm with hm | hm
    · cases hm; exact hb
    · exact h.lts _ _ _ hm, h.eqs, h.extra⟩
theorem addEq_holds {G : Ctx} {x y : SX} {b : Bool} {o : Nat → Value} (h : G.holds o) (hb : decide (x.eval o = y.eval o) = b) : (addEq G x y b).holds o :=
  ⟨h.names, h.lts, fun x' y' b' hm => by
    rcases List.mem_cons.1 hm with hm | hm
    · cases hm; exact hb
    · exact h.eqs _ _ _ hm, h.extra⟩
theorem addLt_of {G : Ctx} {x y : SX} {b : Bool} {o : Nat → Value} (h : (addLt G x y b).holds o) : G.holds o :=
  ⟨h.names, fun x' y' b' hm => h.lts _ _ _ (List.mem_cons_of_mem _ hm), h.eqs, h.extra⟩
theorem addEq_of {G : Ctx} {x y : SX} {b : Bool} {o : Nat → Value} (h : (addEq G x y b).holds o) : G.holds o :=
  ⟨h.names, h.lts, fun x' y' b' hm => h.eqs _ _ _ (List.mem_cons_of_mem _ hm), h.extra⟩

/-- Every case that is not left out comes to what is told. -/
def treeK (P : Program) (L : Look) (rp : Bool) (T : List KC) (S : List KP) (k : KC) : CT → Ctx → Bool
  | .leaf, G => isRes k.res (runK P L rp T S G k)
  | .out, _ => true
  | .lt x y t f, G => treeK P L rp T S k t (addLt G x y true) && treeK P L rp T S k f (addLt G x y false)
  | .eq x y t f, G => treeK P L rp T S k t (addEq G x y true) && treeK P L rp T S k f (addEq G x y false)

/-- The cases that are left out. -/
def outs : CT → Ctx → List Ctx
  | .leaf, _ => []
  | .out, G => [G]
  | .lt x y t f, G => outs t (addLt G x y true) ++ outs f (addLt G x y false)
  | .eq x y t f, G => outs t (addEq G x y true) ++ outs f (addEq G x y false)

theorem con_of_tree {P : Program} {L : Look} {F0 : Fence} {rp : Bool} (hB : FB P L F0 rp) {H : (Nat → Value) → Prop} {T : List KC} {S : List KP} {k : KC} (hf : k.res.free = true) (hT : ∀ c ∈ T, c.free = true ∧ Con P F0 H c)
    (hS : ∀ p ∈ S, p.k.res.free = true ∧ Con P F0 p.ctx.holds p.k) :
    ∀ (t : CT) (G : Ctx), (∀ o, G.holds o → H o) → treeK P L rp T S k t G = true → (∀ G' ∈ outs t G, Con P F0 G'.holds k) → Con P F0 G.holds k
  | .leaf, G, hG, h, _ => con_of_run hB hf hT hS hG h
  | .out, G, _, _, ho => ho G (by simp [outs])
  | .lt x y t f, G, hG, h, ho => by
    simp only [treeK, Bool.and_eq_true] at h
    have a := con_of_tree hB hf hT hS t (addLt G x y true) (fun o k => hG o (addLt_of k)) h.1 (fun G' h' => ho G' (List.mem_append_left _ h'))
    have b := con_of_tree hB hf hT hS f (addLt G x y false) (fun o k => hG o (addLt_of k)) h.2 (fun G' h' => ho G' (List.mem_append_right _ h'))
    intro o h1 h2
    by_cases hc : x.eval o < y.eval o
    · exact a o h1 (addLt_holds h2 (decide_eq_true hc))
    · exact b o h1 (addLt_holds h2 (decide_eq_false hc))
  | .eq x y t f, G, hG, h, ho => by
    simp only [treeK, Bool.and_eq_true] at h
    have a := con_of_tree hB hf hT hS t (addEq G x y true) (fun o k => hG o (addEq_of k)) h.1 (fun G' h' => ho G' (List.mem_append_left _ h'))
    have b := con_of_tree hB hf hT hS f (addEq G x y false) (fun o k => hG o (addEq_of k)) h.2 (fun G' h' => ho G' (List.mem_append_right _ h'))
    intro o h1 h2
    by_cases hc : x.eval o = y.eval o
    · exact a o h1 (addEq_holds h2 (decide_eq_true hc))
    · exact b o h1 (addEq_holds h2 (decide_eq_false hc))
end Go.Ev
end

noncomputable section
namespace Go.Ev
/-- A table of functions. -/
def mkTab : List (Nat × Func) → Tr (Func × Code)
  | [] => .nil
  | p :: r => match p.2.body with
    | some c => (mkTab r).set p.1 (p.2, c)
    | none => mkTab r

theorem mkTab_get : ∀ {l : List (Nat × Func)} {f : Nat} {fn : Func} {c : Code}, (mkTab l).get f = some (fn, c) → (f, fn) ∈ l ∧ fn.body = some c
  | [], f, fn, c, h => by cases h
  | p :: r, f, fn, c, h => by
    unfold mkTab at h
    split at h
    · rename_i c' hc
      by_cases hf : f = p.1
      · subst hf
        rw [Tr.get_set_same] at h
        cases h
        exact ⟨by simp, hc⟩
      · rw [Tr.get_set_other _ _ hf] at h
        obtain ⟨h1, h2⟩ := mkTab_get h
        exact ⟨List.mem_cons_of_mem _ h1, h2⟩
    · obtain ⟨h1, h2⟩ := mkTab_get h
      exact ⟨List.mem_cons_of_mem _ h1, h2⟩

def namesOk : List (Nat × Func) → Bool
  | [] => true
  | p :: r => !(p.2.name == "runtime.NumGoroutine") && namesOk r

theorem namesOk_mem : ∀ {l : List (Nat × Func)} {p : Nat × Func}, namesOk l = true → p ∈ l → (p.2.name == "runtime.NumGoroutine") = false
  | [], _, _, h => by cases h
  | q :: r, p, hs, h => by
    simp only [namesOk, Bool.and_eq_true] at hs
    rcases List.mem_cons.1 h with rfl | h
    · simpa using hs.1
    · exact namesOk_mem hs.2 h

theorem lookOK_of {P : Program} {l : List (Nat × Func)} (h : ∀ p ∈ l, P.funcs[p.1]? = some p.2) (hn : namesOk l = true) : LookOK P (mkTab l).get := by
  intro f fn c hf
  obtain ⟨h1, h2⟩ := mkTab_get hf
  exact ⟨h _ h1, h2, namesOk_mem hn h1⟩
end Go.Ev
end

noncomputable section
namespace Go.Ev
open Go.RowKit
/-! ### What a context says, in plain words -/
def NamesP (o : Nat → Value) : List (SX × Nat × Int × Int) → Prop
  | [] => True
  | (x, k, lo, hi) :: r => (x.eval o = valI (o k) ∧ lo ≤ valI (o k) ∧ valI (o k) ≤ hi) ∧ NamesP o r
def LtsP (o : Nat → Value) : List (SX × SX × Bool) → Prop
  | [] => True
  | (x, y, true) :: r => x.eval o < y.eval o ∧ LtsP o r
  | (x, y, false) :: r => y.eval o ≤ x.eval o ∧ LtsP o r
def EqsP (o : Nat → Value) : List (SX × SX × Bool) → Prop
  | [] => True
  | (x, y, true) :: r => x.eval o = y.eval o ∧ EqsP o r
  | (x, y, false) :: r => ¬ x.eval o = y.eval o ∧ EqsP o r

theorem NamesP.mem {o : Nat → Value} : ∀ {l : List (SX × Nat × Int × Int)}, NamesP o l → ∀ x k lo hi, (x, k, lo, hi) ∈ l → x.eval o = valI (o k) ∧ lo ≤ valI (o k) ∧ valI (o k) ≤ hi
  | [], _, _, _, _, _, h => by cases h
  | (x, k, lo, hi) :: r, hn, x', k', lo', hi', h => by
    rcases List.mem_cons.1 h with h | h
    · cases h; exact hn.1
    · exact NamesP.mem hn.2 _ _ _ _ h
theorem LtsP.mem {o : Nat → Value} : ∀ {l : List (SX × SX × Bool)}, LtsP o l → ∀ x y b, (x, y, b) ∈ l → decide (x.eval o < y.eval o) = b
  | [], _, _, _, _, h => by cases h
  | (x, y, b) :: r, hn, x', y', b', h => by
    rcases List.mem_cons.1 h with h0 | h0
    · cases h0
      cases b with
      | true => exact decide_eq_true hn.1
      | false => exact decide_eq_false (by have := hn.1; omega)
    · cases b with
      | true => exact LtsP.mem hn.2 _ _ _ h0
      | false => exact LtsP.mem hn.2 _ _ _ h0
theorem EqsP.mem {o : Nat → Value} : ∀ {l : List (SX × SX × Bool)}, EqsP o l → ∀ x y b, (x, y, b) ∈ l → decide (x.eval o = y.eval o) = b
  | [], _, _, _, _, h => by cases h
  | (x, y, b) :: r, hn, x', y', b', h => by
    rcases List.mem_cons.1 h with h0 | h0
    · cases h0
      cases b with
      | true => exact decide_eq_true hn.1
      | false => exact decide_eq_false hn.1
    · cases b with
      | true => exact EqsP.mem hn.2 _ _ _ h0
      | false => exact EqsP.mem hn.2 _ _ _ h0
theorem holds_of {G : Ctx} {o : Nat → Value} (h1 : NamesP o G.names) (h2 : LtsP o G.lts) (h3 : EqsP o G.eqs) (h4 : G.extra o) : G.holds o :=
  ⟨h1.mem, h2.mem, h3.mem, h4⟩
theorem LtsP.of {G : Ctx} {o : Nat → Value} (h : G.holds o) : ∀ l, (∀ f ∈ l, f ∈ G.lts) → LtsP o l
  | [], _ => trivial
  | (x, y, true) :: r, hl => ⟨of_decide_eq_true (h.lts x y true (hl _ (List.mem_cons_self ..))), LtsP.of h r (fun f hf => hl f (List.mem_cons_of_mem _ hf))⟩
  | (x, y, false) :: r, hl => ⟨by have := of_decide_eq_false (h.lts x y false (hl _ (List.mem_cons_self ..))); omega, LtsP.of h r (fun f hf => hl f (List.mem_cons_of_mem _ hf))⟩
theorem EqsP.of {G : Ctx} {o : Nat → Value} (h : G.holds o) : ∀ l, (∀ f ∈ l, f ∈ G.eqs) → EqsP o l
  | [], _ => trivial
  | (x, y, true) :: r, hl => ⟨of_decide_eq_true (h.eqs x y true (hl _ (List.mem_cons_self ..))), EqsP.of h r (fun f hf => hl f (List.mem_cons_of_mem _ hf))⟩
  | (x, y, false) :: r, hl => ⟨of_decide_eq_false (h.eqs x y false (hl _ (List.mem_cons_self ..))), EqsP.of h r (fun f hf => hl f (List.mem_cons_of_mem _ hf))⟩

/-- The values of numbers. -/
def ov (z : Nat → Int) (i : Nat) : Value := .int .i64 (z i)
theorem ov_one (z : Nat → Int) (i : Nat) : (ov z i).oneCell' = true := rfl
theorem ov_val (z : Nat → Int) (i : Nat) : valI (ov z i) = z i := rfl

/-- The contract at numbers. -/
def envZ (z : Nat → Int) : Env plain := ⟨fun _ => none, ov z, 0, fun _ => 0, fun _ => True, ov_one z, plain_holds _⟩

theorem Con.at {P : Program} {F0 : Fence} {H : (Nat → Value) → Prop} {k : KC} (c : Con P F0 H k) (hroom : ∀ n, F0.room n) (ho : k.obj = none) (z : Nat → Int) (h : H (ov z)) {b : Bool} (hr : k.res = .ret (.bool b)) (vs : Array Value) (hv : VRs (envZ z) k.args vs.toList) (w : World) :
    Calls P k.f vs w fun e w' => e = .returned (.bool b) ∧ Below w.heap.size w w' := by
  have := c (ov z) (ov_one z) h (envZ z) [] vs w 0 rfl ⟨by simp [ho, objL], fun i => by simp [envZ], fun i => by simp [envZ], fun cc p hc => by rw [ho] at hc; cases hc⟩ hv
  refine (this.calls hroom).mono fun e w' ⟨h1, h2⟩ => ⟨?_, h2⟩
  rw [hr] at h1
  obtain ⟨v', rfl, e2, _, h3⟩ := h1
  simp only [VR] at h3
  rw [h3]
theorem room_there (P : Program) (n : Nat) : (Fence.there P).room n := fun _ h => by simp [Fence.there] at h
end Go.Ev
end

