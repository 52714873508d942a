import Derived.Test.YtckekpcnpccpmaaGreatEvB
set_option linter.unusedVariables false
set_option linter.unusedSimpArgs false
set_option linter.unusedSectionVars false
noncomputable section
namespace Go.Ev
variable {G : Ctx}
section
variable {P : Program} {e : (Env G)} {a : Act} {tm : (TT G)} {h : (AH G)} {w : World}

theorem cells_sound (H : HR e h w) {id b x : Nat} {vs : List (AV G)} {g : Option Nat} (hid : h.objs.get id = some (.cells vs g)) (hφ : e.φ id = some (b, x)) : ∀ (i : Nat) (v : (AV G)), vs[i]? = some v → ∃ v', w.cell? ⟨b, x + i, none⟩ = some v' ∧ VR e v v' := by
  intro i v hi
  cases g with
  | some g =>
    obtain ⟨b', h1, _, c, t, h3, _, h4⟩ := H.obj _ _ hid
    rw [hφ] at h1; cases h1
    obtain ⟨v', h5, h6⟩ := h4 i v hi
    exact ⟨v', by rw [Nat.zero_add, cell_of_row w b i c t (0, 0) h3]; exact h5, h6⟩
  | none =>
    obtain ⟨b', o, h1, _, h4⟩ := H.obj _ _ hid
    rw [hφ] at h1; cases h1
    exact h4 i v hi

theorem vals_of {f : Nat → Option Value} : ∀ {vs : List (AV G)} (k : Nat), (∀ (i : Nat) (v : (AV G)), vs[i]? = some v → ∃ v', f (k + i) = some v' ∧ VR e v v') → ∃ vals : List Value, VRs e vs vals ∧ ∀ j v, vals[j]? = some v → f (k + j) = some v
  | [], k, _ => ⟨[], by simp [VRs], fun j v hv => by simp at hv⟩
  | a :: vs, k, hh => by
    obtain ⟨v, h1, h2⟩ := hh 0 a rfl
    obtain ⟨vals, h3, h4⟩ := vals_of (vs := vs) (k + 1) (fun i v hv => by have := hh (i + 1) v (by simpa using hv); rwa [show k + (i + 1) = k + 1 + i by omega] at this)
    refine ⟨v :: vals, by simp only [VRs]; exact ⟨v, vals, rfl, h2, h3⟩, fun j u hu => ?_⟩
    cases j with
    | zero => simp at hu; subst hu; exact h1
    | succ j => have := h4 j u (by simpa using hu); rwa [show k + 1 + j = k + (j + 1) by omega] at this

theorem read_sound (H : HR e h w) {id b x off n : Nat} {cs : List (AV G)} (hr : h.read id off n = some cs) (hφ : e.φ id = some (b, x)) : cs.length = n ∧ ∃ vals, VRs e cs vals ∧ w.rangeAt b (x + off) vals := by
  unfold AH.read at hr
  split at hr
  · rename_i vs g hid
    unfold sub at hr
    split at hr
    · rename_i hlen
      cases hr
      refine ⟨by simp; omega, ?_⟩
      obtain ⟨vals, h1, h2⟩ := vals_of (e := e) (f := fun i => w.cell? ⟨b, i, none⟩) (vs := (vs.drop off).take n) (x + off) (fun i v hv => by
        have hi : i < n := by have := (List.getElem?_eq_some_iff.1 hv).1; simp at this; omega
        rw [List.getElem?_take, if_pos hi, List.getElem?_drop] at hv
        obtain ⟨v', k1, k2⟩ := cells_sound H hid hφ (off + i) v hv
        exact ⟨v', by rw [Nat.add_assoc]; exact k1, k2⟩)
      exact ⟨vals, h1, h2⟩
    · cases hr
  · cases hr

theorem read1_sound (H : HR e h w) {id b x off : Nat} {v : (AV G)} (hr : h.read1 id off = some v) (hφ : e.φ id = some (b, x)) : ∃ v', VR e v v' ∧ w.cell? ⟨b, x + off, none⟩ = some v' := by
  unfold AH.read1 at hr
  split at hr
  · rename_i vs g hid
    obtain ⟨v', k1, k2⟩ := cells_sound H hid hφ off v hr
    exact ⟨v', k2, k1⟩
  · cases hr

theorem rowOf_some {t : TypeId} {n : Nat} (h : rowOf P t = some (some n)) : ∃ d, P.underlying t = some d ∧ d.isRow = true ∧ (P.info? t).map (·.size) = some n := by
  unfold rowOf at h
  split at h
  · rename_i fs hu; obtain ⟨i, h1, h2⟩ := Option.map_eq_some_iff.1 h; cases h2; exact ⟨_, hu, rfl, by simp [h1]⟩
  · rename_i fs hu; obtain ⟨i, h1, h2⟩ := Option.map_eq_some_iff.1 h; cases h2; exact ⟨_, hu, rfl, by simp [h1]⟩
  · cases h
  · cases h

theorem rowOf_none {t : TypeId} (h : rowOf P t = some none) : ∃ d, P.underlying t = some d ∧ isRowD d = false := by
  unfold rowOf at h
  split at h
  · obtain ⟨i, h1, h2⟩ := Option.map_eq_some_iff.1 h; cases h2
  · obtain ⟨i, h1, h2⟩ := Option.map_eq_some_iff.1 h; cases h2
  · rename_i d h1 h2 hu
    refine ⟨d, hu, ?_⟩
    cases d <;> first | rfl | exact absurd rfl (h1 _) | exact absurd rfl (h2 _ _)
  · cases h

theorem ents_sound (H : HR e h w) {id b x : Nat} {es : List ((AV G) × (AV G))} (hr : h.ents id = some es) (hφ : e.φ id = some (b, x)) : ∃ ents clk, w.heap[b]? = some (.map ents clk) ∧ EntsR e es ents.toList := by
  unfold AH.ents at hr
  split at hr
  · rename_i es' hid
    cases hr
    obtain ⟨b', o, h1, _, c, t, h3, h4⟩ := H.obj _ _ hid
    rw [hφ] at h1; cases h1
    exact ⟨c, t, h3, h4⟩
  · cases hr

/-! ### keys -/
theorem chkFs_sound {rec : TypeId → (AV G) → Bool} {d : Nat} {em : Bool} (hrec : ∀ t a x, rec t a = true → VR e a x → ∀ w, (Instr.checkKey em d t x).run P w = .ok () w) {cs : List (AV G)} {xs : Array Value} (hx : VRs e cs xs.toList) :
    ∀ {fs : List Field}, chkFs P rec cs fs = true → ∀ w, ((forIn fs () (fun f _ => do
      if f.name ≠ "_" then
        Instr.checkKey em d f.type (← part f.type xs f.offset)
      pure (ForInStep.yield ())) : Sem Unit)).run P w = .ok () w
  | [], _, w => by simp
  | f :: fs, hk, w => by
    simp only [chkFs] at hk
    simp only [List.forIn_cons]
    split at hk
    · rename_i hn
      split at hk
      · rename_i a ha
        obtain ⟨a', h1, h2⟩ := part_sound hx ha
        simp only [Bool.and_eq_true] at hk
        have h3 := hrec _ _ _ hk.1 h1
        have h4 := chkFs_sound (em := em) hrec hx hk.2 w
        simp [hn, h2, h3]
        simpa using h4
      · cases hk
    · rename_i hn
      have h4 := chkFs_sound (em := em) hrec hx hk w
      simp [hn]
      simpa using h4

theorem chkEs_sound {rec : (AV G) → Bool} {d n : Nat} {em : Bool} {elem : TypeId} (hrec : ∀ a x, rec a = true → VR e a x → ∀ w, (Instr.checkKey em d elem x).run P w = .ok () w) (hsz : szOf P elem = some n) {cs : List (AV G)} {xs : Array Value} (hx : VRs e cs xs.toList) :
    ∀ {l : List Nat}, chkEs P rec elem n cs l = true → ∀ w, ((forIn l () (fun i _ => do
      Instr.checkKey em d elem (← part elem xs (i * (← sizeOf elem)))
      pure (ForInStep.yield ())) : Sem Unit)).run P w = .ok () w
  | [], _, w => by simp
  | i :: l, hk, w => by
    simp only [chkEs] at hk
    split at hk
    · rename_i a ha
      obtain ⟨a', h1, h2⟩ := part_sound hx ha
      simp only [Bool.and_eq_true] at hk
      have h3 := hrec _ _ hk.1 h1
      have h4 := chkEs_sound (em := em) hrec hsz hx hk.2 w
      simp only [List.forIn_cons]
      simp [run_sizeOf hsz, h2, h3]
      simpa using h4
    · cases hk

theorem chkA_sound {em : Bool} : ∀ {f : Nat} {t : TypeId} {a : (AV G)} {x : Value}, chkA P f t a = true → VR e a x → ∀ d, f ≤ d → ∀ w, (Instr.checkKey em d t x).run P w = .ok () w
  | 0, _, _, _, h, _, _, _, _ => by simp [chkA] at h
  | f + 1, t, a, x, h, ha, 0, hd, _ => by omega
  | f + 1, t, a, x, h, ha, d + 1, hd, w => by
    have ih : ∀ t a x, chkA P f t a = true → VR e a x → ∀ w, (Instr.checkKey em d t x).run P w = .ok () w := fun t a x h h1 => chkA_sound h h1 d (by omega)
    unfold chkA at h
    split at h
    · rename_i fs cs hu
      obtain ⟨xs, rfl, hx⟩ := ha.agg
      have := chkFs_sound (em := em) ih hx h w
      simp only [Instr.checkKey, Sem.run_bind, run_underlying hu, Result.andThen_ok]
      rw [← Array.forIn_toList]
      simp at this ⊢
      simp [this]
    · rename_i len el cs hu
      obtain ⟨xs, rfl, hx⟩ := ha.agg
      split at h
      · rename_i n hn
        have := chkEs_sound (em := em) (ih el) hn hx h w
        simp only [Instr.checkKey, Sem.run_bind, run_underlying hu, Result.andThen_ok]
        rw [Std.Legacy.Range.forIn_eq_forIn_range']
        simp only [Std.Legacy.Range.size, Nat.sub_zero, Nat.add_sub_cancel, Nat.div_one, ← List.range_eq_range']
        simp at this ⊢
        simp [this]
      · cases h
    · rename_i hu; cases ha.bool; simp [Instr.checkKey, run_underlying hu]
    · rename_i hu; cases ha.int; simp [Instr.checkKey, run_underlying hu]
    · rename_i hu; simp only [VR] at ha; obtain ⟨rfl, _⟩ := ha; simp [Instr.checkKey, run_underlying hu]
    · rename_i hu; cases ha.str; simp [Instr.checkKey, run_underlying hu]
    · cases h

theorem sameNow_sound {kt : TypeId} {d : TypeDesc} (hd : P.underlying kt = some d) {k k' : Value} {b : Bool} (h : Instr.sameNow d k k' = some b) (w : World) : (Op.equal kt k k').run P w = .ok b w := by
  show (Op.equalIn (9999 + 1) kt k k').run P w = _
  unfold Instr.sameNow at h
  split at h
  · split at h
    · rename_i hk
      cases h; subst hk; exact run_equalIn_int w 9999 kt _ _ _ _ hd
    · cases h
  · cases h; rw [run_equalIn_string w 9999 kt _ _ hd, beq_toListBytes]
  · cases h; exact run_equalIn_bool' w 9999 kt _ _ hd
  · cases h

theorem findNow_sound {kt : TypeId} {d : TypeDesc} (hd : P.underlying kt = some d) {k : Value} : ∀ {es : List MapEntry} {i : Nat} {r : Option (Nat × Value)}, Instr.findNow d k es i = some r → ∀ w, (Instr.findAsking kt k es i).run P w = .ok r w
  | [], i, r, h, w => by simp only [Instr.findNow] at h; cases h; simp [Instr.findAsking]
  | x :: es, i, r, h, w => by
    simp only [Instr.findNow] at h
    split at h
    · rename_i hs; cases h; simp [Instr.findAsking, sameNow_sound hd hs]
    · rename_i hs; simp [Instr.findAsking, sameNow_sound hd hs]; exact findNow_sound hd h w
    · cases h

theorem run_findKey {kt : TypeId} {d : TypeDesc} (hd : P.underlying kt = some d) {k : Value} {es : List MapEntry} {r : Option (Nat × Value)} (h : ∀ w, (Instr.findAsking kt k es 0).run P w = .ok r w) (w : World) : (Instr.findKey kt k es).run P w = .ok r w := by
  simp only [Instr.findKey, Sem.run_bind, run_underlying hd, Result.andThen_ok]
  split
  · rename_i r' hr
    have h1 := findNow_sound hd hr w
    rw [h w] at h1; cases h1
    simp
  · exact h w

theorem findA_sound {kt : TypeId} {k : (AV G)} {kv : Value} (hk : VR e k kv) : ∀ {es : List ((AV G) × (AV G))} {ents : List MapEntry} {r : Option (AV G)} (i : Nat), findA P kt k es = some r → EntsR e es ents →
    ∃ r' : Option (Nat × Value), (∀ w, (Instr.findAsking kt kv ents i).run P w = .ok r' w) ∧ (match r, r' with | none, none => True | some v, some (_, v') => VR e v v' | _, _ => False)
  | [], ents, r, i, h, hE => by
    simp only [EntsR] at hE; subst hE
    simp only [findA] at h; cases h
    exact ⟨none, fun w => by simp [Instr.findAsking], trivial⟩
  | (k', v) :: es, ents, r, i, h, hE => by
    simp only [EntsR] at hE
    obtain ⟨x, es', rfl, h1, h2, h3⟩ := hE
    simp only [findA] at h
    split at h
    · rename_i hq
      cases h
      have := fun w => eqA_sound hq hk h1 10000 (by decide) w
      exact ⟨some (i, x.val), fun w => by simp [Instr.findAsking, Op.equal, Op.maxDepth, this], h2⟩
    · rename_i hq
      have := fun w => eqA_sound hq hk h1 10000 (by decide) w
      obtain ⟨r', k1, k2⟩ := findA_sound hk (i + 1) h h3
      exact ⟨r', fun w => by simp [Instr.findAsking, Op.equal, Op.maxDepth, this, k1], k2⟩
    · cases h

theorem run_zeroValue {t : TypeId} {i : TypeInfo} {v : Value} (hi : P.info? t = some i) (hz : i.zero = some v) (w : World) : (zeroValue t).run P w = .ok v w := by simp [zeroValue, typeInfo, hi, hz]

theorem readOp_sound (H : HR e h w) (ht : TRs e tm a.tmps) {o : Oper} {v : (AV G)} (hr : readOp P tm h o.op = some v) : ∃ v', VR e v v' ∧ (execOp a.eval o).run P w = .ok (.value v') w := by
  unfold readOp at hr
  split at hr
  · rename_i t x ho
    split at hr
    · rename_i id off n hx hrow
      obtain ⟨cs, hcs, rfl⟩ := Option.map_eq_some_iff.1 hr
      obtain ⟨b, o', hφ, h1⟩ := (rho_sound ht hx).ptr
      obtain ⟨hl, vals, h2, h3⟩ := read_sound H hcs hφ
      obtain ⟨d, hu, hd, hi⟩ := rowOf_some hrow
      refine ⟨.agg vals.toArray, by simp only [VR]; exact ⟨_, rfl, by simpa using h2⟩, ?_⟩
      have := run_loadAt_mid (P := P) w b (o' + off) t vals d h3 hu hd (by rw [hi, h2.length, hl])
      simp [execOp, ho, h1, this]
    · rename_i id off hx hrow
      obtain ⟨b, o', hφ, h1⟩ := (rho_sound ht hx).ptr
      obtain ⟨v', h2, h3⟩ := read1_sound H hr hφ
      obtain ⟨d, hu, hd⟩ := rowOf_none hrow
      refine ⟨v', h2, ?_⟩
      simp [execOp, ho, h1, Instr.loadAt, Instr.sureAddr, loadVar, run_isAgg hu, hd, h3]
    · cases hr
  · rename_i t x i ok ho
    split at hr
    · rename_i kt et m k hu hm hk
      split at hr
      · rename_i hck
        split at hr
        · rename_i es hes
          have hkv := rho_sound ht hk
          have hmv := rho_sound ht hm
          -- the entries, in the world
          have hents : ∃ l : List MapEntry, EntsR e es l ∧ ((a.eval x = .map none ∧ l = []) ∨ ∃ b ents clk, a.eval x = .map (some b) ∧ w.heap[b]? = some (.map ents clk) ∧ l = ents.toList) := by
            cases m <;> first | (cases hes; done) | skip
            · rename_i id
              have h0 := hmv; simp only [VR] at h0
              obtain ⟨b, o', hφ, h1⟩ := h0
              obtain ⟨ents, clk, h2, h3⟩ := ents_sound H hes hφ
              exact ⟨ents.toList, h3, .inr ⟨b, ents, clk, h1, h2, rfl⟩⟩
            · cases hes
              have h0 := hmv; simp only [VR] at h0
              exact ⟨[], by simp [EntsR], .inl ⟨h0, rfl⟩⟩
          obtain ⟨l, hE, hmx⟩ := hents
          have hchk := fun em w => chkA_sound (em := em) hck hkv 10000 (by decide) w
          obtain ⟨d, hd⟩ : ∃ d, P.underlying kt = some d := by
            unfold eqFuel at hck; unfold chkA at hck
            split at hck <;> first | exact ⟨_, ‹_›⟩ | cases hck
          split at hr
          · rename_i v' hf
            cases hr
            obtain ⟨r', k1, k2⟩ := findA_sound hkv 0 hf hE
            cases r' with
            | none => exact k2.elim
            | some p =>
              obtain ⟨n, pv⟩ := p
              have hfk := fun w => run_findKey hd k1 w
              cases ok with
              | true =>
                refine ⟨.tuple #[pv, .bool true], by simp only [if_true, VR]; exact ⟨_, rfl, by simp only [VRs]; exact ⟨_, _, rfl, k2, _, _, rfl, by simp [VR], rfl⟩⟩, ?_⟩
                rcases hmx with ⟨h1, rfl⟩ | ⟨b, ents, clk, h1, h2, rfl⟩
                · simp [execOp, ho, Instr.lookup, run_underlying hu, h1, hchk, hfk]
                · simp [execOp, ho, Instr.lookup, run_underlying hu, h1, getObj, Sem.run, h2, hchk, hfk]
              | false =>
                refine ⟨pv, by simpa using k2, ?_⟩
                rcases hmx with ⟨h1, rfl⟩ | ⟨b, ents, clk, h1, h2, rfl⟩
                · simp [execOp, ho, Instr.lookup, run_underlying hu, h1, hchk, hfk]
                · simp [execOp, ho, Instr.lookup, run_underlying hu, h1, getObj, Sem.run, h2, hchk, hfk]
          · rename_i hf
            split at hr
            · rename_i z hz
              cases hr
              obtain ⟨r', k1, k2⟩ := findA_sound hkv 0 hf hE
              obtain ⟨ti, zv, hi, hzv, hzr⟩ := zeroOf_sound (e := e) hz
              cases r' with
              | some p => obtain ⟨n, pv⟩ := p; exact k2.elim
              | none =>
                have hfk := fun w => run_findKey hd k1 w
                have hzrun := fun w => run_zeroValue (P := P) hi hzv w
                cases ok with
                | true =>
                  refine ⟨.tuple #[zv, .bool false], by simp only [if_true, VR]; exact ⟨_, rfl, by simp only [VRs]; exact ⟨_, _, rfl, hzr, _, _, rfl, by simp [VR], rfl⟩⟩, ?_⟩
                  rcases hmx with ⟨h1, rfl⟩ | ⟨b, ents, clk, h1, h2, rfl⟩
                  · simp [execOp, ho, Instr.lookup, run_underlying hu, h1, hchk, hfk, hzrun]
                  · simp [execOp, ho, Instr.lookup, run_underlying hu, h1, getObj, Sem.run, h2, hchk, hfk, hzrun]
                | false =>
                  refine ⟨zv, by simpa using hzr, ?_⟩
                  rcases hmx with ⟨h1, rfl⟩ | ⟨b, ents, clk, h1, h2, rfl⟩
                  · simp [execOp, ho, Instr.lookup, run_underlying hu, h1, hchk, hfk, hzrun]
                  · simp [execOp, ho, Instr.lookup, run_underlying hu, h1, getObj, Sem.run, h2, hchk, hfk, hzrun]
            · cases hr
          · cases hr
        · cases hr
      · cases hr
    · cases hr
  · cases hr
end
end Go.Ev

namespace Go.Ev
variable {G : Ctx}
section
variable {P : Program} {e : (Env G)} {a : Act} {tm : (TT G)} {h : (AH G)} {w : World}

/-- What a turning operation does. -/
def Does (P : Program) (e : (Env G)) (h : (AH G)) (w : World) (a : Act) (o : Oper) (v : (AV G)) (h' : (AH G)) : Prop :=
  ∃ e' w' r v', (execOp a.eval o).run P w = .ok r w' ∧ (r = .value v' ∨ (r = .skip ∧ v' = undef)) ∧ VR e' v v' ∧ St e h w e' h' w'

theorem one_sound {b : (AV G)} {v : Value} (h1 : b.one = true) (hv : VR e b v) : v.oneCell' = true := by
  cases b with
  | agg cs => cases h1
  | tuple cs => cases h1
  | opq k => simp only [VR] at hv; subst hv; exact e.one k
  | sx x l u => simp only [VR] at hv; obtain ⟨rfl, _⟩ := hv; rfl
  | bool b => cases hv.bool; rfl
  | int k n => cases hv.int; rfl
  | str s => cases hv.str; rfl
  | ptr id off => obtain ⟨_, _, _, rfl⟩ := hv.ptr; rfl
  | slice id off len cap g => obtain ⟨_, _, _, _, rfl, _⟩ := hv.slice; rfl
  | iface t x => simp only [VR] at hv; obtain ⟨_, rfl, _⟩ := hv; rfl
  | func fn f c => simp only [VR] at hv; obtain ⟨_, _, rfl, _⟩ := hv; rfl
  | map id => simp only [VR] at hv; obtain ⟨_, _, _, rfl⟩ := hv; rfl
  | yield id => simp only [VR] at hv; obtain ⟨_, _, _, rfl⟩ := hv; rfl
  | nilp => simp only [VR] at hv; subst hv; rfl
  | nils => simp only [VR] at hv; subst hv; rfl
  | nilm => simp only [VR] at hv; subst hv; rfl
  | nilf => simp only [VR] at hv; subst hv; rfl
  | nili => simp only [VR] at hv; subst hv; rfl

theorem oneAll_sound : ∀ {l : List (AV G)} {vs : List Value}, oneAll l = true → VRs e l vs → ∀ v ∈ vs, v.oneCell' = true
  | [], vs, _, hv, v, hm => by simp only [VRs] at hv; subst hv; cases hm
  | b :: l, vs, h1, hv, v, hm => by
    simp only [VRs] at hv
    obtain ⟨x, vs', rfl, h2, h3⟩ := hv
    simp only [oneAll, Bool.and_eq_true] at h1
    rcases List.mem_cons.1 hm with rfl | hm
    · exact one_sound h1.1 h2
    · exact oneAll_sound h1.2 h3 v hm

theorem get_of_VRs {l : List (AV G)} {c : Array Value} (h : VRs e l c.toList) : ∀ (i : Nat) (x : (AV G)), l[i]? = some x → ∃ v, c[i]? = some v ∧ VR e x v := fun i x hi => by
  obtain ⟨v, h1, h2⟩ := h.get hi
  exact ⟨v, by simpa using h1, h2⟩

theorem length_reptA (z : List (AV G)) : ∀ n, (reptA z n).length = n * z.length
  | 0 => by simp [reptA]
  | n + 1 => by simp [reptA, length_reptA z n, Nat.succ_mul, Nat.add_comm]

theorem get_reptA (z : List (AV G)) : ∀ (n i : Nat), i < n * z.length → (reptA z n)[i]? = z[i % z.length]?
  | 0, i, h => by simp at h
  | n + 1, i, h => by
    unfold reptA
    by_cases hi : i < z.length
    · rw [List.getElem?_append_left hi, Nat.mod_eq_of_lt hi]
    · rw [List.getElem?_append_right (by omega), get_reptA z n _ (by rw [Nat.succ_mul] at h; omega)]
      congr 1
      rw [← Nat.mod_eq_sub_mod (by omega)]

theorem reptA_sound {z : List (AV G)} {zc : Array Value} (hz : VRs e z zc.toList) (n sz : Nat) (hsz : sz = z.length) : VRs e (reptA z n) ((Array.range (n * sz)).map fun i => zc[i % zc.size]!).toList := by
  have hl : zc.size = z.length := by have := hz.length; simpa using this
  subst hsz
  refine VRs.of_get (by simp [length_reptA]) (fun i x hi => ?_)
  have hin : i < n * z.length := by have := (List.getElem?_eq_some_iff.1 hi).1; rwa [length_reptA] at this
  rw [get_reptA z n i hin] at hi
  obtain ⟨v, h1, h2⟩ := hz.get hi
  refine ⟨v, ?_, h2⟩
  have h1' : zc[i % zc.size]? = some v := by rw [hl]; simpa using h1
  have hb : i % zc.size < zc.size := (Array.getElem?_eq_some_iff.1 h1').1
  simp only [Array.toList_map, Array.toList_range, List.getElem?_map, List.getElem?_range hin, Option.map_some]
  rw [getElem!_pos zc _ hb]
  rw [Array.getElem?_eq_getElem hb] at h1'
  exact h1'

theorem run_newRow (elem : TypeId) (c : Array Value) : (newRow elem c).run P w = .ok ⟨w.heap.size, 0, none⟩ (w.alloc (.cells c elem)) := by
  simp [newRow]

theorem VR_new {c : Array Value} : VR (e.bind h.next w.heap.size c.size) (.ptr h.next 0) (.pointer (some ⟨(w : World).heap.size, 0, none⟩)) ∧ True := by
  refine ⟨?_, trivial⟩
  simp only [VR]; exact ⟨_, _, Env.bind_same _ _ _ _, rfl⟩

theorem store_sound (H : HR e h w) {id off b x : Nat} {cs : List (AV G)} {vals : List Value} {h' : (AH G)} (hw : h.write id off cs = some h') (hv : VRs e cs vals) (h1 : oneAll cs = true) (hφ : e.φ id = some (b, x)) :
    (storeCells ⟨b, x + off, none⟩ vals).run P w = .ok () (w.setCells b off vals) ∧ St e h w e h' (w.setCells b off vals) := by
  obtain ⟨hst, hc, hf, rfl⟩ := St.write H hw hv hφ
  have := run_storeCells_cells (P := P) b off vals 0 w (by simpa using hc) (by simpa using hf) (oneAll_sound h1 hv)
  refine ⟨?_, hst⟩
  rw [Nat.zero_add]
  simpa using this

theorem mapUpdate_sound (H : HR e h w) {t kt et : TypeId} {id : Nat} {k v : (AV G)} {es : List ((AV G) × (AV G))} {mv kv vv : Value} (hu : P.underlying t = some (.map kt et)) (hm : VR e (.map id) mv) (hk : VR e k kv) (hv : VR e v vv)
    (hck : chkA P eqFuel kt k = true) (hes : h.ents id = some es) (hf : findA P kt k es = some none) :
    ∃ w', (Instr.mapUpdate t mv kv vv).run P w = .ok () w' ∧ St e h w e (h.putO id (.map (es ++ [(k, v)]))) w' := by
  simp only [VR] at hm
  obtain ⟨b, o', hφ, rfl⟩ := hm
  obtain ⟨ents, clk, h2, h3⟩ := ents_sound H hes hφ
  obtain ⟨r', k1, k2⟩ := findA_sound (P := P) hk 0 hf h3
  cases r' with
  | some p => obtain ⟨n, pv⟩ := p; exact k2.elim
  | none =>
    obtain ⟨d, hd⟩ : ∃ d, P.underlying kt = some d := by
      unfold eqFuel at hck; unfold chkA at hck
      split at hck <;> first | exact ⟨_, ‹_›⟩ | cases hck
    have hfk := fun w => run_findKey hd k1 w
    have hchk := fun w => chkA_sound (em := false) hck hk 10000 (by decide) w
    have hid : h.objs.get id = some (.map es) := by
      unfold AH.ents at hes
      split at hes
      · rename_i es' hid; cases hes; exact hid
      · cases hes
    have hlt := (Array.getElem?_eq_some_iff.1 h2).1
    refine ⟨World.putB w b (.map (ents.push { key := kv, val := vv, born := clk }) (clk + 1)), ?_, ?_⟩
    · simp [Instr.mapUpdate, run_underlying hu, getObj, setObj, Sem.run, h2, hchk, hfk, World.putB]
    · refine St.putO (o := .map es) H hid rfl (by simp) (by simp) hφ h2 ?_
      have hbase := (H.obj _ _ hid).base_le rfl hφ
      refine ⟨b, o', hφ, hbase, _, _, putB_same h2, ?_⟩
      have app : ∀ {l : List ((AV G) × (AV G))} {m : List MapEntry}, EntsR e l m → EntsR e (l ++ [(k, v)]) (m ++ [{ key := kv, val := vv, born := clk }]) := by
        intro l
        induction l with
        | nil => intro m hm; simp only [EntsR] at hm; subst hm; simp only [List.nil_append, EntsR]; exact ⟨_, _, rfl, hk, hv, rfl⟩
        | cons p l ih =>
          intro m hm
          obtain ⟨p1, p2⟩ := p
          simp only [EntsR] at hm
          obtain ⟨x, es', rfl, q1, q2, q3⟩ := hm
          simp only [List.cons_append, EntsR]
          exact ⟨x, _, rfl, q1, q2, ih q3⟩
      simpa using app h3
end
end Go.Ev

namespace Go.Ev
variable {G : Ctx}
section
variable {P : Program} {e : (Env G)} {h : (AH G)} {w : World}

theorem growBy_le (newLen B : Nat) (hB : 2 * newLen + 1024 ≤ B) : ∀ (r c : Nat), c ≤ B → Builtin.growBy newLen r c ≤ B
  | 0, c, hc => hc
  | r + 1, c, hc => by
    unfold Builtin.growBy
    split
    · exact hc
    · exact growBy_le newLen B hB r _ (by omega)

theorem nextslicecap_le (newLen oldCap : Nat) (h : oldCap < newLen) : Builtin.nextslicecap newLen oldCap ≤ 2 * newLen + 1024 := by
  unfold Builtin.nextslicecap
  split
  · omega
  · split
    · omega
    · exact growBy_le newLen _ (Nat.le_refl _) 4 _ (by omega)

theorem fits_sound {need old bytes : Nat} (h : fitsA need bytes = true) (ho : old < need) : Builtin.nextslicecap need old * bytes ≤ 281474976710656 ∧ ((need : Nat) : Int) ≤ 9223372036854775807 := by
  unfold fitsA at h
  simp only [Bool.and_eq_true, decide_eq_true_eq] at h
  refine ⟨Nat.le_trans (Nat.mul_le_mul_right _ (nextslicecap_le need old ho)) h.1, by omega⟩

theorem bytesA_sound (s : ByteArray) : VRs e (bytesA s) (byteCells s) := by
  unfold bytesA byteCells
  generalize s.data.toList = l
  induction l with
  | nil => simp [VRs]
  | cons b l ih => simp only [List.map_cons, VRs]; exact ⟨_, _, rfl, by simp [VR], ih⟩

theorem newsOf_sound (H : HR e h w) {tx : TypeId} {size n : Nat} {x : (AV G)} {news : List (AV G)} {xv : Value} (hn : newsOf P h tx size x = some (n, news)) (hx : VR e x xv) (h1 : oneAll news = true) :
    ∃ vals, VRs e news vals ∧ Src P size tx xv n vals w := by
  unfold newsOf at hn
  split at hn
  · rename_i el hu
    cases hn
    simp only [VR] at hx; subst hx
    exact ⟨[], by simp [VRs], Src.ofNil w hu 0⟩
  · rename_i el id off len cap g hu
    split at hn
    · rename_i cs hcs
      cases hn
      obtain ⟨b, o, c, hφ, rfl, _⟩ := hx.slice
      obtain ⟨hl, vals, k1, k2⟩ := read_sound H hcs hφ
      refine ⟨vals, k1, Src.ofSlice w hu ⟨b, o + off, none⟩ n c vals (by rw [k1.length, hl]) (fun j u hj => by rw [addr_add]; exact k2 j u hj) (oneAll_sound h1 k1)⟩
    · cases hn
  · rename_i s hu
    split at hn
    · rename_i hs
      cases hn
      cases hx.str
      subst hs
      exact ⟨byteCells s, bytesA_sound s, Src.ofString w hu s⟩
    · cases hn
  · cases hn

/-- A new row behind an append: the world, and what is known of it. -/
theorem grown_sound {t tx ty el : TypeId} {i : TypeInfo} {zv : Value} {base : Option Addr} {sLen sCap n : Nat} {x : Value} {old news : List (AV G)} {olds vals : List Value}
    (ht : P.underlying t = some (.slice el)) (hi : P.info? el = some i) (hz : i.zero = some zv) (hzc : zv.cells.size = i.size) (hS : Src P i.size tx x n vals w)
    (hold : (Builtin.firstCells i.size sLen (.slice base sLen sCap)).run P w.drew = .ok olds.toArray w.drew) (ho : VRs e old olds) (hol : old.length = sLen * i.size) (hn : VRs e news vals) (hg : sCap < sLen + n) (hf : fitsA (sLen + n) i.bytes = true) :
    ∃ c : Array Value, (Builtin.append_ #[t, tx] ty #[.slice base sLen sCap, x]).run P w = .ok (.slice (some ⟨w.heap.size, 0, none⟩) (sLen + n) (grownCap w (sLen + n) sCap el)) (w.drew.alloc (.cells c el)) ∧
      (∀ (j : Nat) (b : (AV G)), (old ++ news)[j]? = some b → ∃ v, c[j]? = some v ∧ VR e b v) ∧ grownCap w (sLen + n) sCap el * i.size ≤ c.size ∧ sLen + n ≤ grownCap w (sLen + n) sCap el := by
  obtain ⟨f1, f2⟩ := fits_sound hf hg
  have hge := grownCap_ge w (sLen + n) sCap el
  refine ⟨_, run_append_grow_src w t tx ty el i zv ht hi hz base sLen sCap olds hold x n vals hS hg f2 f1, fun j b hj => ?_, ?_, hge⟩
  · obtain ⟨v, k1, k2⟩ := (ho.append hn).get hj
    refine ⟨v, ?_, k2⟩
    have hlt : j < (olds ++ vals).length := (List.getElem?_eq_some_iff.1 k1).1
    rw [Array.getElem?_append_left (by simpa using hlt)]
    simpa using k1
  · have e1 := ho.length
    have e2 := hS.newsLen
    simp only [Array.size_append, List.size_toArray, List.length_append, size_zeroCells, hzc, e1, e2, hol]
    obtain ⟨k, hk⟩ := Nat.exists_eq_add_of_le hge
    rw [hk, Nat.add_sub_cancel_left, Nat.add_mul, Nat.add_mul]
    omega

theorem appendA_sound (H : HR e h w) {argTypes : Array TypeId} {ty : TypeId} {as : List (AV G)} {xs : List Value} {v : (AV G)} {h' : (AH G)} (hs : appendA P h argTypes.toList as = some (v, h')) (hx : VRs e as xs) :
    ∃ e' w' v', (Builtin.append_ argTypes ty xs.toArray).run P w = .ok v' w' ∧ VR e' v v' ∧ St e h w e' h' w' := by
  unfold appendA at hs
  split at hs
  · rename_i t tx s x hat
    have hat' : argTypes = #[t, tx] := by apply Array.ext'; simpa using hat
    subst hat'
    simp only [VRs] at hx
    obtain ⟨sv, _, rfl, hsv, xv, _, rfl, hxv, rfl⟩ := hx
    split at hs
    · rename_i el ht
      split at hs
      · rename_i i hi
        split at hs
        · rename_i z n news hz hnews
          obtain ⟨i', zv, hi', hzv, hzr⟩ := zeroOf_sound (e := e) hz
          rw [hi] at hi'; cases hi'
          split at hs
          · rename_i hone
            obtain ⟨hone, hzl⟩ := hone
            have hzc : zv.cells.size = i.size := by have := (VR_parts hzr).length; simp at this; omega
            obtain ⟨vals, hvals, hS⟩ := newsOf_sound H hnews hxv hone
            have hnl : news.length = n * i.size := by rw [← hvals.length, hS.newsLen]
            split at hs
            · -- nil
              have h0 := hsv; simp only [VR] at h0; subst h0
              split at hs
              · rename_i hn0
                subst hn0
                cases hs
                refine ⟨e, w, .slice none 0 0, ?_, by simp [VR], St.refl H⟩
                rcases hS.kind with ⟨e', hk⟩ | hk <;> simp [Builtin.append_, run_underlying ht, run_underlying hk, sizeOf, typeInfo, hi, hS.len, hS.cells]
              · rename_i hn0
                split at hs
                · rename_i hfit
                  cases hs
                  obtain ⟨c, g1, g2, g3, g4⟩ := grown_sound (ty := ty) (base := none) (sLen := 0) (sCap := 0) (old := []) (olds := []) ht hi hzv hzc hS (by simpa using run_firstCells_none w.drew i.size 0 0 0) (by simp [VRs]) (by simp) hvals (by omega) (by simpa using hfit)
                  have hst := St.allocC (St.drew H).hr news c el (by simpa using g2)
                  refine ⟨_, _, _, g1, ?_, (St.drew H).trans hst⟩
                  simp only [VR]
                  refine ⟨_, _, _, Env.bind_same _ _ _ _, by simp; rfl, by simpa using g4, by simp, fun _ _ => ?_⟩
                  rw [Env.bind_room]; simpa using g3
                · cases hs
            · -- an exact capacity
              rename_i id off len cap
              obtain ⟨b, o, c, hφ, rfl, hlc, hg0, hg1⟩ := hsv.slice
              have hcc := hg0 rfl
              subst hcc
              split at hs
              · rename_i hn0
                subst hn0
                cases hs
                have hv0 : vals = [] := by
                  have := hS.newsLen; simp at this; exact this
                subst hv0
                refine ⟨e, w, _, ?_, hsv, St.refl H⟩
                have := run_append_room_src (P := P) w t tx ty el i ht hi b (o + off) len c xv 0 [] hS (by omega) (fun j hj => by simp at hj) (fun j hj => by simp at hj)
                simpa [World.setCells] using this
              · split at hs
                · rename_i hn0 hroom
                  split at hs
                  · rename_i h1 hw
                    cases hs
                    obtain ⟨hst, hc1, hc2, rfl⟩ := St.write H hw hvals hφ
                    refine ⟨e, _, _, run_append_room_src (P := P) w t tx ty el i ht hi b (0 + off) len c xv n vals hS hroom (by simpa using hc1) (by simpa using hc2), ?_, by simpa using hst⟩
                    simp only [VR]
                    exact ⟨b, 0, c, hφ, rfl, hroom, fun _ => rfl, by simp⟩
                  · cases hs
                · rename_i hn0 hroom
                  split at hs
                  · rename_i old hold
                    split at hs
                    · rename_i hfit
                      cases hs
                      obtain ⟨hol, olds, ho1, ho2⟩ := read_sound H hold hφ
                      have hfc : (Builtin.firstCells i.size len (.slice (some ⟨b, o + off, none⟩) len c)).run P w.drew = .ok olds.toArray w.drew :=
                        run_firstCells_some w.drew i.size len ⟨b, o + off, none⟩ len c olds (by rw [ho1.length, hol]) (fun j u hj => by rw [addr_add]; exact ho2 j u hj)
                      obtain ⟨cc, g1, g2, g3, g4⟩ := grown_sound (ty := ty) (base := some ⟨b, o + off, none⟩) (sLen := len) (sCap := c) ht hi hzv hzc hS hfc ho1 hol hvals (by omega) hfit
                      have hst := St.allocC (St.drew H).hr (old ++ news) cc el g2
                      refine ⟨_, _, _, g1, ?_, (St.drew H).trans hst⟩
                      simp only [VR]
                      refine ⟨_, _, _, Env.bind_same _ _ _ _, by simp, g4, by simp, fun _ _ => ?_⟩
                      rw [Env.bind_room]; exact g3
                    · cases hs
                  · cases hs
            · -- a capacity that grew
              rename_i id off len cap
              obtain ⟨b, o, c, hφ, rfl, hlc, hg0, hg1⟩ := hsv.slice
              split at hs
              · rename_i hn0
                subst hn0
                cases hs
                have hv0 : vals = [] := by
                  have := hS.newsLen; simp at this; exact this
                subst hv0
                refine ⟨e, w, _, ?_, hsv, St.refl H⟩
                have := run_append_room_src (P := P) w t tx ty el i ht hi b (o + off) len c xv 0 [] hS (by omega) (fun j hj => by simp at hj) (fun j hj => by simp at hj)
                simpa [World.setCells] using this
              · rename_i hn0
                split at hs
                · rename_i hcond
                  obtain ⟨rfl, rfl, hfit⟩ := hcond
                  split at hs
                  · rename_i vs g hid
                    split at hs
                    · rename_i hvl
                      split at hs
                      · rename_i h1 hpush
                        cases hs
                        obtain ⟨b', hφ', hbase, carr, ct, hc, hrm, hcv⟩ := H.obj _ _ hid
                        rw [hφ] at hφ'
                        obtain ⟨rfl, rfl⟩ : b = b' ∧ o = 0 := by simpa using hφ'
                        have hcap := hg1 rfl rfl
                        by_cases hroom : len + n ≤ c
                        · have hcells : ∀ j, j < vals.length → len * i.size + j < carr.size := by
                            intro j hj
                            have e1 := hS.newsLen
                            have e2 : (len + n) * i.size ≤ c * i.size := Nat.mul_le_mul_right _ hroom
                            rw [Nat.add_mul] at e2
                            omega
                          have hst := St.pushIn H hid hpush hvals hφ (fun j hj => by
                            rw [cell_of_row w b _ carr ct (0, 0) hc]
                            have := hcells j hj
                            simp; omega)
                          refine ⟨_, _, _, run_append_room_src (P := P) w t tx ty el i ht hi b (0 + 0) len c xv n vals hS hroom (fun j hj => by
                            rw [cell_of_row w b _ carr ct (0, 0) hc]
                            have := hcells j hj
                            simp; omega) (fun j hj => frozen_of_row w b _ carr ct hc), ?_, by rw [hvl] at hst; simpa using hst⟩
                          simp only [VR]
                          refine ⟨b, 0, c, Env.bind_same _ _ _ _, rfl, hroom, by simp, fun _ _ => ?_⟩
                          rw [Env.bind_room]; exact hcap
                        · have hread : h.read id 0 (len * i.size) = some vs := by
                            unfold AH.read
                            rw [hid]
                            simp only [sub]
                            rw [if_pos (by omega)]
                            simp [← hvl]
                          obtain ⟨hol, olds, ho1, ho2⟩ := read_sound H hread hφ
                          have hfc : (Builtin.firstCells i.size len (.slice (some ⟨b, 0 + 0, none⟩) len c)).run P w.drew = .ok olds.toArray w.drew :=
                            run_firstCells_some w.drew i.size len ⟨b, 0 + 0, none⟩ len c olds (by rw [ho1.length, hol]) (fun j u hj => by rw [addr_add]; exact ho2 j u hj)
                          obtain ⟨cc, g1, g2, g3, g4⟩ := grown_sound (ty := ty) (base := some ⟨b, 0 + 0, none⟩) (sLen := len) (sCap := c) ht hi hzv hzc hS hfc ho1 hol hvals (by omega) hfit
                          have hst := St.pushNew (St.drew H).hr cc el hid hpush g2
                          refine ⟨_, _, _, g1, ?_, (St.drew H).trans hst⟩
                          simp only [VR]
                          refine ⟨_, _, _, Env.bind_same _ _ _ _, by simp, g4, by simp, fun _ _ => ?_⟩
                          rw [Env.bind_room]; exact g3
                      · cases hs
                    · cases hs
                  · cases hs
                · cases hs
            · cases hs
          · cases hs
        · cases hs
      · cases hs
    · cases hs
  · cases hs
end
end Go.Ev

namespace Go.Ev
variable {G : Ctx}
section
variable {P : Program} {e : (Env G)} {a : Act} {tm : (TT G)} {h : (AH G)} {w : World}

theorem range0 : Array.range 0 = #[] := rfl

theorem copyA_sound (H : HR e h w) {argTypes : Array TypeId} {ty : TypeId} {as : List (AV G)} {xs : List Value} {v : (AV G)} {h' : (AH G)} (hs : copyA P h argTypes.toList as = some (v, h')) (hx : VRs e as xs) :
    ∃ w' v', (Builtin.copy_ argTypes ty xs.toArray).run P w = .ok v' w' ∧ VR e v v' ∧ St e h w e h' w' := by
  unfold copyA at hs
  split at hs
  · rename_i t tx id off len cap g x hat
    have hat' : argTypes = #[t, tx] := by apply Array.ext'; simpa using hat
    subst hat'
    simp only [VRs] at hx
    obtain ⟨sv, _, rfl, hsv, xv, _, rfl, hxv, rfl⟩ := hx
    split at hs
    · rename_i el ht
      split at hs
      · rename_i sz hsz
        split at hs
        · rename_i el2 id2 off2 n2 cap2 g2 hu2
          split at hs
          · rename_i cs hcs
            split at hs
            · rename_i hone
              split at hs
              · rename_i h1 hw
                cases hs
                obtain ⟨b, o, c, hφ, rfl, hlc, hg0, hg1⟩ := hsv.slice
                obtain ⟨b2, o2, c2, hφ2, rfl, _⟩ := hxv.slice
                obtain ⟨hol, vals, ho1, ho2⟩ := read_sound H hcs hφ2
                obtain ⟨k1, k2⟩ := store_sound (P := P) H hw ho1 hone hφ
                refine ⟨_, .int .i64 (Nat.min n2 len), ?_, by simp [VR], k2⟩
                have hl := run_loadCells_list (P := P) w ⟨b2, o2 + off2, none⟩ vals (fun j u hj => by rw [addr_add]; exact ho2 j u hj)
                rw [ho1.length, hol] at hl
                simp [Builtin.copy_, run_underlying ht, Builtin.lenOf, Builtin.firstCells, run_sizeOf hsz, hl, k1, goInt]
              · cases hs
            · cases hs
          · cases hs
        · cases hs
      · cases hs
    · cases hs
  · cases hs

theorem run_storeVar_sound (H : HR e h w) {t : TypeId} {id off n b x : Nat} {p : (AV G)} {pv : Value} {h' : (AH G)} (hn : szOf P t = some n) (hp : VR e p pv) (hl : p.parts.length = n) (h1 : oneAll p.parts = true) (hw : h.write id off p.parts = some h')
    (hφ : e.φ id = some (b, x)) : ∃ w', (Instr.storeAt t (.pointer (some ⟨b, x + off, none⟩)) pv).run P w = .ok () w' ∧ St e h w e h' w' := by
  have hv := VR_parts hp
  obtain ⟨k1, k2⟩ := store_sound (P := P) H hw hv h1 hφ
  refine ⟨_, ?_, k2⟩
  have hsz : pv.cells.size = n := by have := hv.length; simp at this; omega
  simp [Instr.storeAt, Instr.sureAddr, storeVar, run_sizeOf hn, hsz, k1]

theorem stepOp_sound (H : HR e h w) (ht : TRs e tm a.tmps) {o : Oper} {v : (AV G)} {h' : (AH G)} (hs : stepOp P tm h o.op = some (v, h')) : Does P e h w a o v h' := by
  unfold stepOp at hs
  split at hs
  · rename_i el ho
    split at hs
    · rename_i z hz
      cases hs
      obtain ⟨i, zv, hi, hzv, hzr⟩ := zeroOf_sound (e := e) hz
      have hst := St.allocC H z.parts zv.cells el (get_of_VRs (VR_parts hzr))
      refine ⟨_, _, _, .pointer (some ⟨w.heap.size, 0, none⟩), ?_, .inl rfl, ?_, hst⟩
      · simp [execOp, ho, Instr.alloc, run_zeroValue hi hzv, newVar, newRow]
      · simp only [VR]; exact ⟨_, _, Env.bind_same _ _ _ _, rfl⟩
    · cases hs
  · rename_i el x ho
    split at hs
    · rename_i p hp
      cases hs
      have hv := rho_sound ht hp
      have hst := St.allocC H p.parts (a.eval x).cells el (get_of_VRs (VR_parts hv))
      refine ⟨_, _, _, .pointer (some ⟨w.heap.size, 0, none⟩), ?_, .inl rfl, ?_, hst⟩
      · simp [execOp, ho, Instr.box, newVar, newRow]
      · simp only [VR]; exact ⟨_, _, Env.bind_same _ _ _ _, rfl⟩
    · cases hs
  · rename_i t x y ho
    split at hs
    · rename_i id off p n hx hy hn
      split at hs
      · rename_i hc
        split at hs
        · rename_i h1 hw
          cases hs
          obtain ⟨b, o', hφ, hpx⟩ := (rho_sound ht hx).ptr
          obtain ⟨w', k1, k2⟩ := run_storeVar_sound (P := P) H hn (rho_sound ht hy) hc.1 hc.2 hw hφ
          refine ⟨e, w', _, undef, ?_, .inr ⟨rfl, rfl⟩, VR_undef, k2⟩
          simp [execOp, ho, hpx, k1]
        · cases hs
      · cases hs
    · cases hs
  · rename_i t len parts ho
    split at hs
    · rename_i el ps hu hps
      split at hs
      · rename_i n z hn hz
        split at hs
        · rename_i hc
          obtain ⟨hc1, hc2, hc3⟩ := hc
          split at hs
          · rename_i cs hfill
            cases hs
            obtain ⟨i, zv, hi, hzv, hzr⟩ := zeroOf_sound (e := e) hz
            have hin : i.size = n := by unfold szOf at hn; rw [hi] at hn; simpa using hn
            have hzp := VR_parts hzr
            obtain ⟨ys, k1, k2⟩ := fillA_sound (rhoParts_sound ht hps) (reptA_sound hzp len n hc3.symm) hfill
            have hst := St.allocC H cs ys el (get_of_VRs k2)
            refine ⟨_, _, _, .slice (some ⟨w.heap.size, 0, none⟩) len len, ?_, .inl rfl, ?_, hst⟩
            · have k1' : Instr.fill (fun j => some (j * n, n)) ((Array.range (len * n)).map fun j => zv.cells[j % zv.cells.size]!) (parts.toList.map fun p => (p.1, a.eval p.2)) = some ys := k1
              have hnot : ¬ 16777216 < len * n := by omega
              by_cases hz0 : len * n = 0
              · have hl0 : len = 0 := by rcases Nat.mul_eq_zero.1 hz0 with h | h <;> omega
                subst hl0
                simp [range0] at k1'
                simp [execOp, ho, Instr.buildSlice, run_underlying hu, run_sizeOf hn, k1', newRow, range0]
              · simp [execOp, ho, Instr.buildSlice, run_underlying hu, run_sizeOf hn, hnot, hz0, run_zeroValue hi hzv, k1', newRow]
            · simp only [VR]
              exact ⟨_, _, len, Env.bind_same _ _ _ _, rfl, Nat.le_refl _, fun _ => rfl, by simp⟩
          · cases hs
        · cases hs
      · cases hs
    · cases hs
  · rename_i t l c ho
    split at hs
    · rename_i el k1 li k2 ci hu hl hc
      split at hs
      · rename_i i z hi hz
        split at hs
        · rename_i hcond
          obtain ⟨hl0, hlc, hcm, hbm, hsz0, hzl⟩ := hcond
          cases hs
          obtain ⟨i', zv, hi', hzv, hzr⟩ := zeroOf_sound (e := e) hz
          rw [hi] at hi'; cases hi'
          have hzp := VR_parts hzr
          have e1 := (rho_sound ht hl).int
          have e2 := (rho_sound ht hc).int
          have hst := St.allocC H (reptA z.parts ci.toNat) ((Array.range (ci.toNat * i.size)).map fun j => zv.cells[j % zv.cells.size]!) el (get_of_VRs (reptA_sound hzp ci.toNat i.size hzl.symm))
          refine ⟨_, _, _, .slice (some ⟨w.heap.size, 0, none⟩) li.toNat ci.toNat, ?_, .inl rfl, ?_, hst⟩
          · have w1 : IntKind.i64.wrap li = li := by rw [← fwrap_eq, fwrap_i64]; rw [if_pos ⟨by omega, by omega⟩]
            have w2 : IntKind.i64.wrap ci = ci := by rw [← fwrap_eq, fwrap_i64]; rw [if_pos ⟨by omega, by omega⟩]
            have n1 : ¬ ci < 0 := by omega
            have n2 : ¬ li < 0 := by omega
            have n3 : ¬ ci < li := by omega
            have n4 : ¬ (281474976710656 < (i.bytes : Int) * ci) := by
              have : (i.bytes : Int) * ci ≤ 1000000 * 1000000 := Int.mul_le_mul (by omega) hcm (by omega) (by omega)
              omega
            by_cases hz0 : ci.toNat * i.size = 0
            · simp [execOp, ho, Instr.makeSlice, run_underlying hu, e1, e2, asInt, asIntOf, typeInfo, hi, w1, w2, n1, n2, n3, n4, sizeOf, hz0, newRow, range0]
            · simp [execOp, ho, Instr.makeSlice, run_underlying hu, e1, e2, asInt, asIntOf, typeInfo, hi, w1, w2, n1, n2, n3, n4, sizeOf, hz0, run_zeroValue hi hzv, newRow]
          · simp only [VR]
            exact ⟨_, _, ci.toNat, Env.bind_same _ _ _ _, rfl, by omega, fun _ => rfl, by simp⟩
        · cases hs
      · cases hs
    · cases hs
  · rename_i t ho
    cases hs
    have hst := St.allocO H (.map []) (.map #[] 0) (by simp) ⟨w.heap.size, 0, Env.bind_same _ _ _ _, H.base, #[], 0, heap_alloc_new w _, by simp [EntsR]⟩
    refine ⟨_, _, _, .map (some w.heap.size), ?_, .inl rfl, ?_, hst⟩
    · simp [execOp, ho, Instr.makeMap]
    · simp only [VR]; exact ⟨_, _, Env.bind_same _ _ _ _, rfl⟩
  · rename_i t m k y ho
    split at hs
    · rename_i kt et id kk vv hu hm hk hv
      split at hs
      · rename_i hck
        split at hs
        · rename_i es hes
          split at hs
          · rename_i hf
            cases hs
            obtain ⟨w', k1, k2⟩ := mapUpdate_sound (P := P) H hu (rho_sound ht hm) (rho_sound ht hk) (rho_sound ht hv) hck hes hf
            refine ⟨e, w', _, undef, ?_, .inr ⟨rfl, rfl⟩, VR_undef, k2⟩
            simp [execOp, ho, k1]
          · cases hs
        · cases hs
      · cases hs
    · cases hs
  · rename_i c ho
    have hargs : (c.args.toList.map a.eval).toArray = c.args.map a.eval := by apply Array.ext'; simp
    split at hs
    · rename_i hb
      split at hs
      · rename_i as has
        obtain ⟨e', w', v', k1, k2, k3⟩ := appendA_sound (P := P) (ty := o.type) H hs (rhos_sound ht has)
        rw [hargs] at k1
        refine ⟨e', w', _, v', ?_, .inl rfl, k2, k3⟩
        simp only [execOp, ho, resolve, hb, Sem.run_bind, Sem.run_pure, Result.andThen_ok, invoke, builtin, k1]
      · cases hs
    · rename_i hb
      split at hs
      · rename_i as has
        obtain ⟨w', v', k1, k2, k3⟩ := copyA_sound (P := P) (ty := o.type) H hs (rhos_sound ht has)
        rw [hargs] at k1
        refine ⟨e, w', _, v', ?_, .inl rfl, k2, k3⟩
        simp only [execOp, ho, resolve, hb, Sem.run_bind, Sem.run_pure, Result.andThen_ok, invoke, builtin, k1]
      · cases hs
    · cases hs
  · cases hs
end
end Go.Ev

namespace Go.Ev
variable {G : Ctx}

/-- A deferred call's place in an activation: the mark of a range over a function alone. -/
inductive ADf where
  | mark (id : Nat)

structure AAct (G : Ctx) where
  tmps : (TT G)
  defers : List ADf

def putA (a : (AAct G)) (dst : Option Nat) (v : (AV G)) : (AAct G) :=
  match dst with
  | some d => { a with tmps := setT a.tmps d v }
  | none => a

/-- Is the operation carried out? -/
def wantA (ops : Array Oper) (tm : (TT G)) (o : Oper) : Option Bool :=
  match o.guard with
  | none => some true
  | some (j, want) =>
    match (ops[j]?).bind (·.dst) with
    | some t => match getT tm t with
      | .bool b => some (b == want)
      | .tuple _ => some false
      | _ => none
    | none => some false

inductive OpRes (G : Ctx) where
  | val (v : (AV G)) (h : (AH G))
  | call (f : FuncId) (args : List (AV G))
  | round (id : Nat) (args : List (AV G))

def callArm (P : Program) (tm : (TT G)) (h : (AH G)) (o : Op) (c : Call) : Option (OpRes G) :=
  match c.callee with
  | .builtin .append | .builtin .copy => (stepOp P tm h o).map fun (v, h') => .val v h'
  | .builtin _ => (pureOp P tm o).map fun v => .val v h
  | .value x =>
    match rho tm x, rhos tm c.args.toList with
    | some (.func (.func f) first cap), some args =>
      match P.funcs[f]? with
      | some fn => if (fn.name == "runtime.NumGoroutine") = false ∧ fn.body.isSome = true then some (.call f (first ++ args ++ cap)) else none
      | none => none
    | some (.yield id), some args => some (.round id args)
    | _, _ => none
  | _ => none

def opA (P : Program) (tm : (TT G)) (h : (AH G)) (o : Op) : Option (OpRes G) :=
  match o with
  | .load _ _ | .lookup _ _ _ _ => (readOp P tm h o).map fun v => .val v h
  | .alloc _ | .box _ _ | .store _ _ _ | .buildSlice _ _ _ | .makeSlice _ _ _ | .makeMap _ _ | .mapUpdate _ _ _ _ => (stepOp P tm h o).map fun (v, h') => .val v h'
  | .call c => callArm P tm h o c
  | _ => (pureOp P tm o).map fun v => .val v h

inductive Job (G : Ctx) where
  | code (rd : Option Nat) (c : Code) (a : (AAct G)) (h : (AH G))
  | ops (rd : Option Nat) (ops : Array Oper) (l : List Nat) (a : (AAct G)) (h : (AH G))
  | call (f : FuncId) (args : List (AV G)) (h : (AH G))
  | round (id : Nat) (args : List (AV G)) (h : (AH G))

inductive Res (G : Ctx) where
  | at_ (x : Exit) (a : (AAct G)) (h : (AH G))
  | ret (v : (AV G)) (h : (AH G))

def loopA (self : (Job G) → Option (Res G)) (rd : Option Nat) (c : Code) : Nat → (AAct G) → (AH G) → Option (Res G)
  | 0, _, _ => none
  | m + 1, a, h =>
    match self (.code rd c a h) with
    | some (.at_ .normal a h) => loopA self rd c m a h
    | r => r

def loopMost : Nat := 1000000

def resA (P : Program) (tm : (TT G)) (h : (AH G)) : ResultVar → Option (AV G)
  | .tmp t => some (getT tm t)
  | .cell p t =>
    match getT tm p, rowOf P t with
    | .ptr id off, some (some n) => (h.read id off n).map .agg
    | .ptr id off, some none => h.read1 id off
    | _, _ => none

def ressA (P : Program) (tm : (TT G)) (h : (AH G)) : List ResultVar → Option (List (AV G))
  | [] => some []
  | r :: l => match resA P tm h r, ressA P tm h l with
    | some v, some vs => some (v :: vs)
    | _, _ => none

def tupA : List (AV G) → (AV G)
  | [v] => v
  | vs => .tuple vs

/-- The marks that an activation leaves behind are taken. -/
def leaveA : List ADf → (AH G) → Option (AH G)
  | [], h => some h
  | .mark id :: r, h =>
    match h.objs.get id with
    | some (.defd (some [])) => leaveA r (h.putO id (.defd none))
    | _ => none

def getLoop (h : (AH G)) (id : Nat) : Option (ALoop G) :=
  match h.objs.get id with
  | some (.loop l) => some l
  | _ => none

def foldSet (tm : (TT G)) : List Nat → List (AV G) → (TT G)
  | t :: ts, v :: vs => foldSet (setT tm t v) ts vs
  | _, _ => tm

/-- How a round's body was left: the pending jump. -/
def jumpOf : Exit → Option (Option Code)
  | .normal => some none
  | .ret => some (some .ret)
  | .exit id => some (some (.exit id))
  | .goto t => some (some (.goto t))
  | _ => none

def isRet : Exit → Bool
  | .normal | .ret => true
  | _ => false

def stepJ (P : Program) (draw : ((Job G) → Option (Res G)) → Option Nat → Array Oper → (AAct G) → (AH G) → Option (Res G)) (self : (Job G) → Option (Res G)) : (Job G) → Option (Res G)
  | .code rd c a h =>
    match c with
    | .skip | .label _ => some (.at_ .normal a h)
    | .region _ ops false => self (.ops rd ops (List.range ops.size) a h)
    | .region _ ops true => draw self rd ops a h
    | .seq x y =>
      match self (.code rd x a h) with
      | some (.at_ .normal a h) => self (.code rd y a h)
      | r => r
    | .cond c x y =>
      match rho a.tmps c with
      | some (.bool true) => self (.code rd x a h)
      | some (.bool false) => self (.code rd y a h)
      | _ => none
    | .block id x =>
      match self (.code rd x a h) with
      | some (.at_ (.exit id') a h) => some (.at_ (if id' = id then .normal else .exit id') a h)
      | r => r
    | .loop x => loopA self rd x loopMost a h
    | .scope x =>
      match self (.code rd x a h) with
      | some (.at_ (.goto _) _ _) => none
      | r => r
    | .exit id => some (.at_ (.exit id) a h)
    | .goto l => some (.at_ (.goto l) a h)
    | .ret => some (.at_ .ret a h)
    | .rangeFunc g ps assign body =>
      match rho a.tmps g with
      | some (.func (.func f) first cap) =>
        match P.funcs[f]? with
        | some fn =>
          if (fn.name == "runtime.NumGoroutine") = false ∧ fn.body.isSome = true then
            let go (h : (AH G)) (df : Nat) (mark : List ADf) : Option (Res G) :=
              match self (.call f (first ++ [.yield h.next] ++ cap) (h.allocO (.loop { state := .ready, pending := none, tmps := a.tmps, params := ps, assign, body, defers := df }))) with
              | some (.ret _ h2) =>
                match getLoop h2 h.next with
                | some l =>
                  if l.state == .busy then none else
                  let h3 := h2.putO h.next (.loop { l with state := .exhausted })
                  let a2 := { a with defers := mark ++ a.defers }
                  match l.pending with
                  | none => some (.at_ .normal a2 h3)
                  | some c => self (.code rd c a2 h3)
                | none => none
              | _ => none
            match rd with
            | none => go (h.allocO (.defd (some []))) h.next [.mark h.next]
            | some l => match getLoop h l with
              | some r => go h r.defers []
              | none => none
          else none
        | none => none
      | _ => none
    | _ => none
  | .ops rd ops l a h =>
    match l with
    | [] => some (.at_ .normal a h)
    | i :: rest =>
      match ops[i]? with
      | none => self (.ops rd ops rest a h)
      | some o =>
        match wantA ops a.tmps o with
        | some true =>
          match opA P a.tmps h o.op with
          | some (.val v h) => self (.ops rd ops rest (putA a o.dst v) h)
          | some (.call f args) =>
            match self (.call f args h) with
            | some (.ret v h) => self (.ops rd ops rest (putA a o.dst v) h)
            | _ => none
          | some (.round id args) =>
            match self (.round id args h) with
            | some (.ret v h) => self (.ops rd ops rest (putA a o.dst v) h)
            | _ => none
          | none => none
        | some false => self (.ops rd ops rest (putA a o.dst undefA) h)
        | none => none
  | .call f args h =>
    match P.funcs[f]? with
    | some fn => match fn.body with
      | some c =>
        match self (.code none c { tmps := ofT args fn.ntmps, defers := [] } h) with
        | some (.at_ x a h) =>
          if isRet x = true then
            match leaveA a.defers h with
            | some h => match ressA P a.tmps h fn.results.toList with
              | some vs => some (.ret (tupA vs) h)
              | none => none
            | none => none
          else none
        | _ => none
      | none => none
    | none => none
  | .round id args h =>
    match getLoop h id with
    | some l =>
      if args.length = l.params.size then
        match self (.code (some id) l.assign { tmps := foldSet l.tmps l.params.toList args, defers := [] } h) with
        | some (.at_ .normal a1 h1) =>
          match getLoop h1 id with
          | some l1 =>
            if l1.state = .ready then
              match self (.code (some id) l.body a1 (h1.putO id (.loop { l1 with state := .busy }))) with
              | some (.at_ x _ h2) =>
                match jumpOf x, getLoop h2 id with
                | some j, some l2 => some (.ret (.bool j.isNone) (h2.putO id (.loop { l2 with state := if j.isNone then .ready else .done, pending := j })))
                | _, _ => none
              | _ => none
            else none
          | none => none
        | _ => none
      else none
    | none => none

def noDraw : ((Job G) → Option (Res G)) → Option Nat → Array Oper → (AAct G) → (AH G) → Option (Res G) := fun _ _ _ _ _ => none
end Go.Ev

namespace Go.Ev
variable {G : Ctx}
/-- A scope that no jump to a label leaves. -/
def noJump (Q : Exit → Act → World → Prop) : Exit → Act → World → Prop
  | .goto _, _, _ => False
  | e, a, w => Q e a w

section
variable {P : Program} {F : Fence} {n : Nat} {b : Frame} {a : Act} {k : List Item} {cs : List Frame} {w : World} {Q : Exit → Act → World → Prop}

theorem stepR_scope' {c : Code} : step P (lone (b.atR a (.code (.scope c) :: k)) cs w) = .next (lone (b.atR a (.code c :: .inScope c :: k)) cs w) :=
  step_lone_go (by simp [stepG, stepG.exec, Frame.atR])
theorem stepR_inScope' {c : Code} : step P (lone (b.atR a (.inScope c :: k)) cs w) = .next (lone (b.atR a k) cs w) :=
  step_lone_go (by simp [stepG, stepG.exec, Frame.atR])

theorem wpIn_scope_calm {c : Code} (h : c.wpIn F n P (noJump Q) a w) : (Code.scope c).wpIn F n P Q a w := by
  intro b k cs hro hb hr
  have h0 : (lone (b.atR a (.code (.scope c) :: k)) cs w).fenced P F := fenced_calm hb hr rfl
  obtain ⟨e, a₁, w₁, hq, harr⟩ := h b (.inScope c :: k) cs hro hb hr
  cases e with
  | normal => exact ⟨.normal, a₁, w₁, hq, .head h0 stepR_scope' (StepsIn.trans harr (.one (fenced_calm hb hr rfl) stepR_inScope'))⟩
  | exit id =>
    have hx : exitTo id (.inScope c :: k) = exitTo id k := by simp [exitTo]
    exact ⟨.exit id, a₁, w₁, hq, fun k' hk => .head h0 stepR_scope' (harr.1 k' (by rw [hx]; exact hk)),
      fun hr' hk => let ⟨k₁, h1, h2⟩ := harr.2 hr' (by rw [hx]; exact hk); ⟨k₁, h1, .head h0 stepR_scope' h2⟩⟩
  | goto l => exact hq.elim
  | ret => exact ⟨_, a₁, w₁, hq, .of_steps (.one h0 stepR_scope') harr⟩
  | panic ch => exact ⟨_, a₁, w₁, hq, .of_steps (.one h0 stepR_scope') harr⟩
  | outgrown => exact ⟨_, a₁, w₁, hq, .of_steps (.one h0 stepR_scope') harr⟩
end
end Go.Ev

namespace Go.Ev
variable {G : Ctx}

def FOK (F : Fence) (rd : Option Nat) (e : (Env G)) : Prop :=
  match rd with
  | none => F = Fence.wide
  | some id => ∃ b o, e.φ id = some (b, o) ∧ F = Fence.wide.inRound b

theorem FOK.mono {F : Fence} {rd : Option Nat} {e e' : (Env G)} (h : FOK F rd e) (k : e.le e') : FOK F rd e' := by
  cases rd with
  | none => exact h
  | some id => obtain ⟨b, o, h1, h2⟩ := h; exact ⟨b, o, k.φ _ _ h1, h2⟩

theorem FOK.fn {F : Fence} {rd : Option Nat} {e : (Env G)} (h : FOK F rd e) (f : FuncId) : F.fn f := by
  cases rd with
  | none => cases (show F = Fence.wide from h); trivial
  | some id => obtain ⟨b, o, _, rfl⟩ := h; trivial

theorem FOK.depth {F : Fence} {rd : Option Nat} {e : (Env G)} (h : FOK F rd e) (n : Nat) : F.depth.isSome = true → 1 ≤ n := by
  cases rd with
  | none => cases (show F = Fence.wide from h); intro k; cases k
  | some id => obtain ⟨b, o, _, rfl⟩ := h; intro k; cases k

theorem FOK.calls {F : Fence} {rd : Option Nat} {e : (Env G)} (h : FOK F rd e) {n : Nat} {P : Program} {f : FuncId} {args : Array Value} {w : World} {R : Ending → World → Prop} (k : CallsIn Fence.wide n P f args w R) : CallsIn F n P f args w R := by
  cases rd with
  | none => cases (show F = Fence.wide from h); exact k
  | some id => obtain ⟨b, o, _, rfl⟩ := h; exact k

theorem FOK.rounds {F : Fence} {rd : Option Nat} {e : (Env G)} (h : FOK F rd e) {n : Nat} {P : Program} {l : Nat} {f : FuncId} {tm : Array Value} {as bd : Code} {w : World} {R : Ending → World → Prop} (k : RoundIn Fence.wide n P l f tm as bd w R) : RoundIn F n P l f tm as bd w R := by
  cases rd with
  | none => cases (show F = Fence.wide from h); exact k
  | some id => obtain ⟨b, o, _, rfl⟩ := h; exact k

def DefR (e : (Env G)) : ADf → Deferred → Prop
  | .mark id, d => ∃ b o, e.φ id = some (b, o) ∧ d = { target := .collected b, args := #[] }

def DefsR (e : (Env G)) : List ADf → List Deferred → Prop
  | [], l => l = []
  | a :: r, l => ∃ d l', l = d :: l' ∧ DefR e a d ∧ DefsR e r l'

theorem DefR.mono {e e' : (Env G)} (h : e.le e') {a : ADf} {d : Deferred} (k : DefR e a d) : DefR e' a d := by
  cases a with
  | mark id => obtain ⟨b, o, h1, h2⟩ := k; exact ⟨b, o, h.φ _ _ h1, h2⟩

theorem DefsR.mono {e e' : (Env G)} (h : e.le e') : ∀ {l : List ADf} {m : List Deferred}, DefsR e l m → DefsR e' l m
  | [], _, k => k
  | a :: r, _, k => by
    obtain ⟨d, l', h1, h2, h3⟩ := k
    exact ⟨d, l', h1, h2.mono h, h3.mono h⟩

structure ActR (e : (Env G)) (aa : (AAct G)) (a : Act) : Prop where
  tmps : TRs e aa.tmps a.tmps
  defers : DefsR e aa.defers a.defers

theorem ActR.mono {e e' : (Env G)} (h : e.le e') {aa : (AAct G)} {a : Act} (k : ActR e aa a) : ActR e' aa a := ⟨k.tmps.mono h, k.defers.mono h⟩

theorem ActR.put {e : (Env G)} {aa : (AAct G)} {a : Act} (k : ActR e aa a) (dst : Option Nat) {v : (AV G)} {v' : Value} (hv : VR e v v') : ActR e (putA aa dst v) (a.put dst v') := by
  cases dst with
  | none => exact k
  | some d =>
    refine ⟨?_, k.defers⟩
    exact k.tmps.set hv

def JobOK (P : Program) : (Job G) → (Res G) → Prop
  | .code rd c aa h, .at_ x aa' h' => ∀ (e : (Env G)) (a : Act) (w : World) (F : Fence) (n : Nat) (Q : Exit → Act → World → Prop), HR e h w → ActR e aa a → FOK F rd e →
      (∀ e' a' w', St e h w e' h' w' → ActR e' aa' a' → Q x a' w') → c.wpIn F n P Q a w
  | .ops rd ops l aa h, .at_ x aa' h' => ∀ (e : (Env G)) (a : Act) (w : World) (F : Fence) (n : Nat) (Q : Exit → Act → World → Prop), HR e h w → ActR e aa a → FOK F rd e →
      (∀ e' a' w', St e h w e' h' w' → ActR e' aa' a' → Q x a' w') → wpOpsIn F n P ops Q l a w
  | .call f args h, .ret v h' => ∀ (e : (Env G)) (vs : Array Value) (w : World) (n : Nat) (R : Ending → World → Prop), HR e h w → VRs e args vs.toList →
      (∀ e' v' w', St e h w e' h' w' → VR e' v v' → R (.returned v') w') → CallsIn Fence.wide n P f vs w R
  | .round id args h, .ret v h' => ∀ (e : (Env G)) (vs : Array Value) (w : World) (n : Nat) (R : Ending → World → Prop) (b x : Nat), HR e h w → VRs e args vs.toList → e.φ id = some (b, x) →
      (∀ e' v' w', St e h w e' h' w' → VR e' v v' → R (.returned v') w') → ∃ f tm as bd, (Instr.yield b vs).run P w = .ok (.round b f tm as bd) w ∧ RoundIn Fence.wide n P b f tm as bd w R
  | _, _ => False

def SelfOK (P : Program) (self : (Job G) → Option (Res G)) : Prop := ∀ j r, self j = some r → JobOK P j r

def DrawOK (P : Program) (draw : ((Job G) → Option (Res G)) → Option Nat → Array Oper → (AAct G) → (AH G) → Option (Res G)) : Prop :=
  ∀ self, SelfOK P self → ∀ rd ops aa h r id, draw self rd ops aa h = some r → JobOK P (.code rd (.region id ops true) aa h) r

theorem noDraw_ok (P : Program) : DrawOK (G := G) P noDraw := fun _ _ _ _ _ _ _ _ h => by cases h

section
variable {P : Program} {e : (Env G)} {aa : (AAct G)} {a : Act} {h : (AH G)} {w : World} {F : Fence} {rd : Option Nat} {n : Nat} {K : Act → World → Prop} {Q : Exit → Act → World → Prop}

theorem getT_get {tm : (TT G)} {vs : Array Value} (t : Nat) (h : TRs e tm vs) : (vs[t]? = none ∧ getT tm t = undefA) ∨ ∃ v, vs[t]? = some v ∧ VR e (getT tm t) v := by
  cases hv : vs[t]? with
  | some v => exact .inr ⟨v, rfl, h.get t v hv⟩
  | none =>
    have := Array.getElem?_eq_none_iff.1 hv
    have := h.size
    exact .inl ⟨rfl, getT_none (h.out t (by omega))⟩

theorem wantA_sound {ops : Array Oper} {o : Oper} {b : Bool} (ha : TRs e aa.tmps a.tmps) (hw : wantA ops aa.tmps o = some b) : Region.wanted o (yielded ops a.tmps) = b := by
  unfold wantA at hw
  unfold Region.wanted
  split at hw
  · rename_i hg; cases hw; rw [hg]
  · rename_i j want hg
    rw [hg]
    simp only
    split at hw
    · rename_i t ht
      rcases getT_get t ha with ⟨h1, h2⟩ | ⟨v, h1, h2⟩
      · rw [h2] at hw
        simp only [undefA] at hw; cases hw
        have : a.tmps[t]? = none := h1
        simp [yielded, ht, this]
      · have h1' : a.tmps[t]? = some v := h1
        split at hw
        · rename_i b' hb; cases hw
          rw [hb] at h2; cases h2.bool
          simp [yielded, ht, h1']
        · rename_i vs hb; cases hw
          rw [hb] at h2; obtain ⟨xs, rfl, _⟩ := h2.tuple
          simp [yielded, ht, h1']
        · cases hw
    · rename_i ht; cases hw
      simp [yielded, ht]

theorem semAt_plain {o : Oper} (ho : ∀ c, o.op ≠ .defer c) : o.semAt F.round a.eval = execOp a.eval o := Oper.semAt_eq _ _ _ ho

theorem opA_val (H : HR e h w) (hA : ActR e aa a) (hF : FOK F rd e) {o : Oper} {v : (AV G)} {h1 : (AH G)} (ho : opA P aa.tmps h o.op = some (.val v h1))
    (hK : ∀ e1 w1 v', St e h w e1 h1 w1 → VR e1 v v' → K (a.put o.dst v') w1) : o.wpIn F n P a w K Q := by
  have pure_ : ∀ {v1 : (AV G)}, pureOp P aa.tmps o.op = some v1 → v1 = v → h1 = h → (∀ c, o.op ≠ .defer c) → o.wpIn F n P a w K Q := by
    intro v1 hp hv hh hd
    subst hv hh
    obtain ⟨v', k1, k2⟩ := pureOp_sound hA.tmps hp
    refine ⟨fun f _ => hF.fn f, ?_⟩
    rw [semAt_plain hd, k2 w]
    exact hK e w v' (St.refl H) k1
  have read_ : ∀ {v1 : (AV G)}, readOp P aa.tmps h o.op = some v1 → v1 = v → h1 = h → (∀ c, o.op ≠ .defer c) → o.wpIn F n P a w K Q := by
    intro v1 hp hv hh hd
    subst hv hh
    obtain ⟨v', k1, k2⟩ := readOp_sound H hA.tmps hp
    refine ⟨fun f _ => hF.fn f, ?_⟩
    rw [semAt_plain hd, k2]
    exact hK e w v' (St.refl H) k1
  have step_ : ∀ {v1 : (AV G)} {h2 : (AH G)}, stepOp P aa.tmps h o.op = some (v1, h2) → v1 = v → h1 = h2 → (∀ c, o.op ≠ .defer c) → o.wpIn F n P a w K Q := by
    intro v1 h2 hp hv hh hd
    subst hv hh
    obtain ⟨e', w', r, v', k1, k2, k3, k4⟩ := stepOp_sound H hA.tmps hp
    refine ⟨fun f _ => hF.fn f, ?_⟩
    rw [semAt_plain hd, k1]
    rcases k2 with rfl | ⟨rfl, rfl⟩
    · exact hK e' w' v' k4 k3
    · exact hK e' w' undef k4 k3
  unfold opA callArm at ho
  split at ho
  · rename_i hop; obtain ⟨v1, hp, hq⟩ := Option.map_eq_some_iff.1 ho; cases hq; exact read_ hp rfl rfl (by rw [hop]; simp)
  · rename_i hop; obtain ⟨v1, hp, hq⟩ := Option.map_eq_some_iff.1 ho; cases hq; exact read_ hp rfl rfl (by rw [hop]; simp)
  · rename_i hop; obtain ⟨⟨v1, h2⟩, hp, hq⟩ := Option.map_eq_some_iff.1 ho; cases hq; exact step_ hp rfl rfl (by rw [hop]; simp)
  · rename_i hop; obtain ⟨⟨v1, h2⟩, hp, hq⟩ := Option.map_eq_some_iff.1 ho; cases hq; exact step_ hp rfl rfl (by rw [hop]; simp)
  · rename_i hop; obtain ⟨⟨v1, h2⟩, hp, hq⟩ := Option.map_eq_some_iff.1 ho; cases hq; exact step_ hp rfl rfl (by rw [hop]; simp)
  · rename_i hop; obtain ⟨⟨v1, h2⟩, hp, hq⟩ := Option.map_eq_some_iff.1 ho; cases hq; exact step_ hp rfl rfl (by rw [hop]; simp)
  · rename_i hop; obtain ⟨⟨v1, h2⟩, hp, hq⟩ := Option.map_eq_some_iff.1 ho; cases hq; exact step_ hp rfl rfl (by rw [hop]; simp)
  · rename_i hop; obtain ⟨⟨v1, h2⟩, hp, hq⟩ := Option.map_eq_some_iff.1 ho; cases hq; exact step_ hp rfl rfl (by rw [hop]; simp)
  · rename_i hop; obtain ⟨⟨v1, h2⟩, hp, hq⟩ := Option.map_eq_some_iff.1 ho; cases hq; exact step_ hp rfl rfl (by rw [hop]; simp)
  · rename_i c hop
    split at ho
    · obtain ⟨⟨v1, h2⟩, hp, hq⟩ := Option.map_eq_some_iff.1 ho; cases hq; exact step_ hp rfl rfl (by rw [hop]; simp)
    · obtain ⟨⟨v1, h2⟩, hp, hq⟩ := Option.map_eq_some_iff.1 ho; cases hq; exact step_ hp rfl rfl (by rw [hop]; simp)
    · obtain ⟨v1, hp, hq⟩ := Option.map_eq_some_iff.1 ho; cases hq; exact pure_ hp rfl rfl (by rw [hop]; simp)
    · split at ho
      · split at ho
        · split at ho <;> cases ho
        · cases ho
      · cases ho
      · cases ho
    · cases ho
  · obtain ⟨v1, hp, hq⟩ := Option.map_eq_some_iff.1 ho; cases hq
    refine pure_ hp rfl rfl (fun c hc => ?_)
    rw [hc] at hp; simp [pureOp] at hp

theorem run_callFunc {f : FuncId} {fn : Func} (hf : P.funcs[f]? = some fn) (h1 : (fn.name == "runtime.NumGoroutine") = false) (h2 : fn.body.isSome = true) (args : Array Value) (w : World) : (callFunc f args).run P w = .ok (.enter f args) w := by
  have : fn.body.isNone = false := by cases hb : fn.body <;> simp_all
  simp only [callFunc, Sem.run_bind, run_program, Result.andThen_ok, hf, h1, this]
  simp

theorem opA_call (hA : ActR e aa a) {o : Oper} {f : FuncId} {args : List (AV G)} (ho : opA P aa.tmps h o.op = some (.call f args)) :
    ∃ vs : Array Value, VRs e args vs.toList ∧ (∀ w, (execOp a.eval o).run P w = .ok (.enter f vs) w) ∧ ∀ c, o.op ≠ .defer c := by
  unfold opA callArm at ho
  split at ho <;> first
    | (obtain ⟨v1, hp, hq⟩ := Option.map_eq_some_iff.1 ho; cases hq; done)
    | skip
  rename_i c hop
  split at ho <;> first
    | (obtain ⟨v1, hp, hq⟩ := Option.map_eq_some_iff.1 ho; cases hq; done)
    | (cases ho; done)
    | skip
  rename_i x hcal
  split at ho
  · rename_i f' first cap as hx has
    split at ho
    · rename_i fn hfn
      split at ho
      · rename_i hc
        cases ho
        have hxv := rho_sound hA.tmps hx
        simp only [VR] at hxv
        obtain ⟨f1, c1, hev, k1, k2⟩ := hxv
        have k3 := rhos_sound hA.tmps has
        refine ⟨f1 ++ c.args.map a.eval ++ c1, ?_, fun w => ?_, by rw [hop]; simp⟩
        · have := (k1.append k3).append k2
          simpa using this
        · simp only [execOp, hop, resolve, hcal, Sem.run_bind, Deferred.ofValue, hev, Sem.run_pure, Result.andThen_ok, invoke]
          exact run_callFunc hfn hc.1 hc.2 _ w
      · cases ho
    · cases ho
  · cases ho
  · cases ho

theorem opA_round (hA : ActR e aa a) {o : Oper} {id : Nat} {args : List (AV G)} (ho : opA P aa.tmps h o.op = some (.round id args)) :
    ∃ (vs : Array Value) (b x : Nat), e.φ id = some (b, x) ∧ VRs e args vs.toList ∧ (∀ w, (execOp a.eval o).run P w = (Instr.yield b vs).run P w) ∧ ∀ c, o.op ≠ .defer c := by
  unfold opA callArm at ho
  split at ho <;> first
    | (obtain ⟨v1, hp, hq⟩ := Option.map_eq_some_iff.1 ho; cases hq; done)
    | skip
  rename_i c hop
  split at ho <;> first
    | (obtain ⟨v1, hp, hq⟩ := Option.map_eq_some_iff.1 ho; cases hq; done)
    | (cases ho; done)
    | skip
  rename_i x hcal
  split at ho
  · split at ho
    · split at ho <;> cases ho
    · cases ho
  · rename_i id' as hx has
    cases ho
    have hxv := rho_sound hA.tmps hx
    simp only [VR] at hxv
    obtain ⟨b, o', hφ, hev⟩ := hxv
    have k3 := rhos_sound hA.tmps has
    refine ⟨c.args.map a.eval, b, o', hφ, by simpa using k3, fun w => ?_, by rw [hop]; simp⟩
    simp only [execOp, hop, resolve, hcal, Sem.run_bind, Deferred.ofValue, hev, Sem.run_pure, Result.andThen_ok, invoke]
    simp
  · cases ho
end
end Go.Ev

namespace Go.Ev
variable {G : Ctx}
section
variable {P : Program}

theorem JobOK.code_res {rd : Option Nat} {c : Code} {a : (AAct G)} {h : (AH G)} {r : (Res G)} (k : JobOK P (.code rd c a h) r) : ∃ x a' h', r = .at_ x a' h' := by
  cases r with
  | at_ x a h => exact ⟨x, a, h, rfl⟩
  | ret v h => exact k.elim

theorem then_ne {next : Act → World → Prop} {Q : Exit → Act → World → Prop} {x : Exit} {a : Act} {w : World} (hx : x ≠ .normal) (h : Q x a w) : Exit.then next Q x a w := by
  cases x <;> first | exact absurd rfl hx | exact h

theorem loopA_sound {self : (Job G) → Option (Res G)} (hs : SelfOK P self) {rd : Option Nat} {c : Code} : ∀ (m : Nat) {aa : (AAct G)} {h : (AH G)} {r : (Res G)}, loopA self rd c m aa h = some r →
    ∃ x aa' h', r = .at_ x aa' h' ∧ ∀ (e : (Env G)) (a : Act) (w : World) (F : Fence) (n : Nat) (Q : Exit → Act → World → Prop), HR e h w → ActR e aa a → FOK F rd e →
      (∀ e' a' w', St e h w e' h' w' → ActR e' aa' a' → Q x a' w') → Code.roundsIn F n P c Q m a w
  | 0, _, _, _, h => by simp [loopA] at h
  | m + 1, aa, h, r, hl => by
    unfold loopA at hl
    split at hl
    · rename_i a1 h1 hc
      obtain ⟨x, aa', h', hr, k⟩ := loopA_sound hs m hl
      refine ⟨x, aa', h', hr, fun e a w F n Q H hA hF hQ => ?_⟩
      have hj := hs _ _ hc
      rw [roundsIn_succ]
      refine hj e a w F n _ H hA hF (fun e1 a1' w1 hst hA1 => ?_)
      exact k e1 a1' w1 F n Q hst.hr hA1 (hF.mono hst.le) (fun e2 a2 w2 hst2 hA2 => hQ e2 a2 w2 (hst.trans hst2) hA2)
    · rename_i hne
      have hj := hs _ _ hl
      obtain ⟨x, aa', h', rfl⟩ := hj.code_res
      refine ⟨x, aa', h', rfl, fun e a w F n Q H hA hF hQ => ?_⟩
      rw [roundsIn_succ]
      refine hj e a w F n _ H hA hF (fun e1 a1' w1 hst hA1 => then_ne (fun hx => ?_) (hQ e1 a1' w1 hst hA1))
      subst hx
      exact hne _ _ hl

theorem leaveA_sound {e : (Env G)} {fn : Func} {tm : Array Value} {n : Nat} {R : Ending → World → Prop} : ∀ {l : List ADf} {ds : List Deferred} {h h' : (AH G)} {w : World}, leaveA l h = some h' → HR e h w → DefsR e l ds →
    (∀ w', St e h w e h' w' → LeavesIn Fence.wide n P fn tm R [] .returning w') → LeavesInM Fence.wide n P fn tm R ds .returning w
  | [], ds, h, h', w, hl, H, hD, hR => by
    simp only [DefsR] at hD; subst hD
    simp only [leaveA] at hl; cases hl
    exact hR w (St.refl H)
  | .mark id :: l, ds, h, h', w, hl, H, hD, hR => by
    simp only [DefsR] at hD
    obtain ⟨d, ds', rfl, hd, hD⟩ := hD
    obtain ⟨b, o, hφ, rfl⟩ := hd
    simp only [leaveA] at hl
    split at hl
    · rename_i hid
      obtain ⟨b', o', h1, hbase, h3⟩ := H.obj _ _ hid
      rw [hφ] at h1; cases h1
      have hst : St e h w e (h.putO id (.defd none)) (World.putB w b (.deferred none)) :=
        St.putO (o := .defd (some [])) H hid rfl (by simp) (by simp) hφ h3 ⟨b, o, hφ, hbase, putB_same h3⟩
      refine ⟨by simp, .inl ⟨b, World.putB w b (.deferred none), rfl, ?_, ?_⟩⟩
      · have hlt := (Array.getElem?_eq_some_iff.1 h3).1
        simp at h3
        simp [Instr.takeDeferred, getObj, setObj, Sem.run, h3, World.putB]
      · exact leaveA_sound hl hst.hr hD (fun w' hw' => hR w' (hst.trans hw'))
    · cases hl

def resV (ts : Array Value) : ResultVar → Sem Value
  | .tmp t => pure (ts.getD t Go.undef)
  | .cell a t => do loadVar t (← asAddr (ts.getD a Go.undef))

theorem resA_sound {e : (Env G)} {h : (AH G)} {w : World} {tm : (TT G)} {ts : Array Value} (H : HR e h w) (ht : TRs e tm ts) {r : ResultVar} {v : (AV G)} (hr : resA P tm h r = some v) :
    ∃ v', VR e v v' ∧ (resV ts r).run P w = .ok v' w := by
  have hg : ∀ t, VR e (getT tm t) (ts.getD t Go.undef) := fun t => by
    exact getT_sound (e := e) t ht
  cases r with
  | tmp t => simp only [resA] at hr; cases hr; exact ⟨_, hg t, rfl⟩
  | cell p t =>
    simp only [resA] at hr
    have hp := hg p
    split at hr
    · rename_i id off n hx hrow
      obtain ⟨cs, hcs, rfl⟩ := Option.map_eq_some_iff.1 hr
      rw [hx] at hp
      obtain ⟨b, o', hφ, h1⟩ := hp.ptr
      obtain ⟨hl, vals, h2, h3⟩ := read_sound H hcs hφ
      obtain ⟨d, hu, hd, hi⟩ := rowOf_some hrow
      refine ⟨.agg vals.toArray, by simp only [VR]; exact ⟨_, rfl, by simpa using h2⟩, ?_⟩
      have := run_loadVar_mid (P := P) w b (o' + off) t vals d h3 hu hd (by rw [hi, h2.length, hl])
      simp only [resV, h1, asAddr, Sem.run_bind, Sem.run_pure, Result.andThen_ok, this]
    · rename_i id off hx hrow
      rw [hx] at hp
      obtain ⟨b, o', hφ, h1⟩ := hp.ptr
      obtain ⟨v', h2, h3⟩ := read1_sound H hr hφ
      obtain ⟨d, hu, hd⟩ := rowOf_none hrow
      refine ⟨v', h2, ?_⟩
      simp only [resV, h1, asAddr, Sem.run_bind, Sem.run_pure, Result.andThen_ok]
      simp [loadVar, run_isAgg hu, hd, h3]
    · cases hr

theorem ressA_sound {e : (Env G)} {h : (AH G)} {w : World} {tm : (TT G)} {ts : Array Value} (H : HR e h w) (ht : TRs e tm ts) : ∀ {l : List ResultVar} {vs : List (AV G)}, ressA P tm h l = some vs →
    ∃ vs', VRs e vs vs' ∧ (l.mapM (resV ts)).run P w = .ok vs' w
  | [], vs, h1 => by simp only [ressA] at h1; cases h1; exact ⟨[], by simp [VRs], by simp⟩
  | r :: l, vs, h1 => by
    simp only [ressA] at h1
    split at h1
    · rename_i v us hv hus
      cases h1
      obtain ⟨v', k1, k2⟩ := resA_sound H ht hv
      obtain ⟨us', k3, k4⟩ := ressA_sound H ht hus
      refine ⟨v' :: us', by simp only [VRs]; exact ⟨_, _, rfl, k1, k3⟩, ?_⟩
      rw [List.mapM_cons, Sem.run_bind, k2]
      simp only [Result.andThen_ok, Sem.run_bind, k4, Sem.run_pure]
    · cases h1

theorem results_sound {e : (Env G)} {h : (AH G)} {w : World} {tm : (TT G)} {ts : Array Value} {fn : Func} {vs : List (AV G)} (H : HR e h w) (ht : TRs e tm ts) (hr : ressA P tm h fn.results.toList = some vs) :
    ∃ v', VR e (tupA vs) v' ∧ (results fn ts).run P w = .ok v' w := by
  obtain ⟨vs', k1, k2⟩ := ressA_sound H ht hr
  have hres : (results fn ts).run P w = .ok (if h : vs'.toArray.size = 1 then vs'.toArray[0] else .tuple vs'.toArray) w := by
    unfold results
    rw [Sem.run_bind, Array.mapM_eq_mapM_toList, Sem.run_map]
    have hf : ∀ f : ResultVar → Sem Value, (∀ x, f x = resV ts x) → (fn.results.toList.mapM f).run P w = .ok vs' w := fun f hf => by rw [show f = resV ts from funext hf]; exact k2
    rw [hf _ (by intro x; cases x <;> rfl)]
    rfl
  rw [hres]
  match vs, k1 with
  | [], k1 =>
    simp only [VRs] at k1; subst k1
    exact ⟨.tuple #[], by simp [tupA, VR, VRs], by simp⟩
  | [v], k1 =>
    simp only [VRs] at k1
    obtain ⟨v', _, rfl, k, rfl⟩ := k1
    exact ⟨v', by simpa [tupA] using k, by simp⟩
  | v :: u :: r, k1 =>
    have hl := k1.length
    refine ⟨.tuple vs'.toArray, by simp only [tupA, VR]; exact ⟨_, rfl, by simpa using k1⟩, ?_⟩
    simp at hl
    rw [dif_neg (by simp; omega)]

theorem VRs.foldSet {e : (Env G)} : ∀ (ts : List Nat) {tm : (TT G)} {vs : List (AV G)} {xs : List Value} {us : Array Value}, TRs e tm us → VRs e vs xs →
    TRs e (foldSet tm ts vs) ((ts.zip xs).foldl (fun (t : Array Value) (p : Nat × Value) => t.setIfInBounds p.1 p.2) us)
  | [], tm, vs, xs, us, h, k => by simpa [Ev.foldSet] using h
  | t :: ts, tm, [], xs, us, h, k => by simp only [VRs] at k; subst k; simpa [Ev.foldSet] using h
  | t :: ts, tm, v :: vs, xs, us, h, k => by
    simp only [VRs] at k
    obtain ⟨x, xs', rfl, k1, k2⟩ := k
    simp only [Ev.foldSet, List.zip_cons_cons, List.foldl_cons]
    exact VRs.foldSet ts (h.set k1) k2
end
end Go.Ev

namespace Go.Ev
variable {G : Ctx}
section
variable {P : Program}

theorem getLoop_sound {e : (Env G)} {h : (AH G)} {w : World} (H : HR e h w) {id b x : Nat} {l : (ALoop G)} (hl : getLoop h id = some l) (hφ : e.φ id = some (b, x)) : h.objs.get id = some (.loop l) ∧ e.base ≤ b ∧ ∃ L, w.heap[b]? = some (.loop L) ∧ LoopR e l L := by
  unfold getLoop at hl
  split at hl
  · rename_i l' hid
    cases hl
    obtain ⟨b', o, h1, h2, L, h3, h4⟩ := H.obj _ _ hid
    rw [hφ] at h1; cases h1
    exact ⟨hid, h2, L, h3, h4⟩
  · cases hl

theorem run_getLoop {w : World} {b : Nat} {L : Loop} (h : w.heap[b]? = some (.loop L)) : (Instr.getLoop b).run P w = .ok L w := by
  simp [Instr.getLoop, getObj, Sem.run, h]

theorem run_setObj {w : World} {b : Nat} {L : Loop} (h : w.heap[b]? = some (.loop L)) (O : Obj) : (setObj b O).run P w = .ok () (World.putB w b O) := by
  simp [setObj, Sem.run, h, World.putB]

/-- A loop's record is turned. -/
theorem St.putLoop {e : (Env G)} {h : (AH G)} {w : World} (H : HR e h w) {id b x : Nat} {l l' : (ALoop G)} {L L' : Loop} (hid : h.objs.get id = some (.loop l)) (hφ : e.φ id = some (b, x)) (hbase : e.base ≤ b) (hL : w.heap[b]? = some (.loop L)) (hr : LoopR e l' L') :
    St e h w e (h.putO id (.loop l')) (World.putB w b (.loop L')) :=
  St.putO (o := .loop l) H hid rfl (by simp) (by simp) hφ hL ⟨b, x, hφ, hbase, L', putB_same hL, hr⟩

theorem round_sound {self : (Job G) → Option (Res G)} (hs : SelfOK P self) {draw : ((Job G) → Option (Res G)) → Option Nat → Array Oper → (AAct G) → (AH G) → Option (Res G)} {id : Nat} {args : List (AV G)} {h : (AH G)} {r : (Res G)}
    (hj : stepJ P draw self (.round id args h) = some r) : JobOK P (.round id args h) r := by
  simp only [stepJ] at hj
  split at hj
  · rename_i l hl
    split at hj
    · rename_i hargs
      split at hj
      · rename_i a1 h1 hassign
        split at hj
        · rename_i l1 hl1
          split at hj
          · rename_i hready
            split at hj
            · rename_i x a2 h2 hbody
              split at hj
              · rename_i j l2 hjump hl2
                cases hj
                intro e vs w n R b x' H hv hφ hR
                obtain ⟨hid, hbase, L, hL, hLR⟩ := getLoop_sound H hl hφ
                have hsz : vs.size = L.params.size := by rw [hLR.params, ← hargs]; have := hv.length; simpa using this
                refine ⟨L.fn, (L.params.zip vs).foldl (fun tmps (t, a) => tmps.setIfInBounds t a) L.tmps, L.assign, L.body, ?_, ?_⟩
                · simp [Instr.yield, run_getLoop hL, hsz]
                · refine roundIn_of_wpIn trivial ?_
                  rw [hLR.assign]
                  have htm : TRs e (foldSet l.tmps l.params.toList args) ((L.params.zip vs).foldl (fun (tmps : Array Value) (p : Nat × Value) => tmps.setIfInBounds p.1 p.2) L.tmps) := by
                    rw [← Array.foldl_toList, Array.toList_zip, hLR.params]
                    exact VRs.foldSet _ hLR.tmps hv
                  refine hs _ _ hassign e _ w _ n _ H ⟨htm, rfl⟩ ⟨b, x', hφ, rfl⟩ (fun e1 a1' w1 hst1 hA1 => ?_)
                  obtain ⟨hid1, hbase1, L1, hL1, hLR1⟩ := getLoop_sound hst1.hr hl1 (hst1.le.φ _ _ hφ)
                  have hst2 := St.putLoop (l' := { l1 with state := .busy }) (L' := { L1 with state := .busy }) hst1.hr hid1 (hst1.le.φ _ _ hφ) hbase1 hL1 ⟨rfl, hLR1.pending, hLR1.tmps, hLR1.params, hLR1.assign, hLR1.body, hLR1.defers⟩
                  refine ⟨World.putB w1 b (.loop { L1 with state := .busy }), ?_, ?_⟩
                  · show (Instr.beginRound b).run P w1 = _
                    simp [Instr.beginRound, run_getLoop hL1, run_setObj hL1, hLR1.state, hready]
                  · rw [hLR.body]
                    refine hs _ _ hbody e1 a1' _ _ n _ hst2.hr hA1 ⟨b, x', hst1.le.φ _ _ hφ, rfl⟩ (fun e2 a2' w2 hst3 hA2 => ?_)
                    have hst13 := (hst1.trans hst2).trans hst3
                    obtain ⟨hid2, hbase2, L2, hL2, hLR2⟩ := getLoop_sound hst13.hr hl2 (hst13.le.φ _ _ hφ)
                    have fin : ∀ jj : Option Code, j = jj → ∃ v w', (Instr.endRound b jj).run P w2 = .ok v w' ∧ R (.returned v) w' := by
                      intro jj hjj
                      subst hjj
                      have hst4 := St.putLoop (l' := { l2 with state := if j.isNone then .ready else .done, pending := j }) (L' := { L2 with state := if j.isNone then .ready else .done, pending := j }) hst13.hr hid2 (hst13.le.φ _ _ hφ) hbase2 hL2
                        ⟨rfl, rfl, hLR2.tmps, hLR2.params, hLR2.assign, hLR2.body, hLR2.defers⟩
                      refine ⟨.bool j.isNone, _, ?_, hR e2 _ _ (hst13.trans hst4) (by simp [VR])⟩
                      simp [Instr.endRound, run_getLoop hL2, run_setObj hL2]
                    cases x <;> simp only [jumpOf] at hjump <;> first
                      | (cases hjump; done)
                      | exact fin _ (Option.some.inj hjump).symm
              · cases hj
            · cases hj
          · cases hj
        · cases hj
      · cases hj
    · cases hj
  · cases hj

theorem range_go_sound {self : (Job G) → Option (Res G)} (hs : SelfOK P self) {rd : Option Nat} {g : Operand} {ps : Array Tmp} {assign body : Code} {aa : (AAct G)} {h0 : (AH G)} {f : FuncId} {first cap : List (AV G)} {fn : Func} {df : Nat} {mark : List ADf} {r : (Res G)}
    (hg : rho aa.tmps g = some (.func (.func f) first cap)) (hfn : P.funcs[f]? = some fn) (hn : (fn.name == "runtime.NumGoroutine") = false) (hb : fn.body.isSome = true)
    (hgo : (match self (.call f (first ++ [.yield h0.next] ++ cap) (h0.allocO (.loop { state := .ready, pending := none, tmps := aa.tmps, params := ps, assign, body, defers := df }))) with
              | some (.ret _ h2) =>
                match getLoop h2 h0.next with
                | some l =>
                  if l.state == .busy then none else
                  match l.pending with
                  | none => some (.at_ .normal { aa with defers := mark ++ aa.defers } (h2.putO h0.next (.loop { l with state := .exhausted })))
                  | some c => self (.code rd c { aa with defers := mark ++ aa.defers } (h2.putO h0.next (.loop { l with state := .exhausted })))
                | none => none
              | _ => none) = some r) :
    ∃ x aa' h', r = .at_ x aa' h' ∧ ∀ (e : (Env G)) (a : Act) (w w0 : World) (F : Fence) (n : Nat) (Q : Exit → Act → World → Prop) (dl : List Deferred) (D : Nat) (o : Nat), HR e h0 w0 → ActR e aa a → FOK F rd e → e.φ df = some (D, o) → DefsR e mark dl →
      (∀ fnid, (Instr.enterLoop fnid a.tmps ps assign body F.round).run P w = .ok (w0.heap.size, dl) (w0.alloc (.loop { state := .ready, pending := none, fn := fnid, tmps := a.tmps, params := ps, assign, body, defers := D }))) →
      (∀ e' a' w', St e h0 w0 e' h' w' → ActR e' aa' a' → Q x a' w') → (Code.rangeFunc g ps assign body).wpIn F n P Q a w := by
  split at hgo
  · rename_i v2 h2 hcall
    split at hgo
    · rename_i l hl
      split at hgo
      · cases hgo
      · rename_i hnb
        -- what is done behind the call
        have key : ∃ x aa' h', r = .at_ x aa' h' ∧ ∀ (e2 : (Env G)) (a2 : Act) (w3 : World) (F : Fence) (n : Nat) (Q : Exit → Act → World → Prop), HR e2 (h2.putO h0.next (.loop { l with state := .exhausted })) w3 → ActR e2 { aa with defers := mark ++ aa.defers } a2 → FOK F rd e2 →
            (∀ e' a' w', St e2 (h2.putO h0.next (.loop { l with state := .exhausted })) w3 e' h' w' → ActR e' aa' a' → Q x a' w') → (match l.pending with | none => Q .normal a2 w3 | some c => c.wpIn F n P Q a2 w3) := by
          split at hgo
          · rename_i hpend
            cases hgo
            exact ⟨_, _, _, rfl, fun e2 a2 w3 F n Q H2 hA2 hF2 hQ => hQ e2 a2 w3 (St.refl H2) hA2⟩
          · rename_i c hpend
            obtain ⟨x, aa', h', rfl⟩ := (hs _ _ hgo).code_res
            exact ⟨x, aa', h', rfl, fun e2 a2 w3 F n Q H2 hA2 hF2 hQ => hs _ _ hgo e2 a2 w3 F n Q H2 hA2 hF2 hQ⟩
        obtain ⟨x, aa', h', hr, key⟩ := key
        refine ⟨x, aa', h', hr, fun e a w w0 F n Q dl D o H hA hF hD hdl henter hQ => ?_⟩
        refine wpIn_rangeFunc (fun fnid _ => ?_)
        have hgv := rho_sound hA.tmps hg
        simp only [VR] at hgv
        obtain ⟨f1, c1, hev, k1, k2⟩ := hgv
        have hent := henter fnid
        obtain ⟨L0, hL0⟩ : ∃ L0 : Loop, L0 = { state := .ready, pending := none, fn := fnid, tmps := a.tmps, params := ps, assign := assign, body := body, defers := D } := ⟨_, rfl⟩
        rw [← hL0] at hent
        refine ⟨w0.heap.size, dl, w0.alloc (.loop L0), { target := .fn (.func f) c1, args := f1 ++ #[.func (.yield w0.heap.size) #[] #[]] }, w0.alloc (.loop L0), f, f1 ++ #[.func (.yield w0.heap.size) #[] #[]] ++ c1, w0.alloc (.loop L0), hent, ?_, fun f' _ => hF.fn f', ?_, hF.depth n, hF.calls ?_⟩
        · have hc : (#[Operand.const (.func (.yield w0.heap.size) #[] #[])] : Array Operand).map a.eval = #[.func (.yield w0.heap.size) #[] #[]] := by simp [Act.eval]
          simp only [resolve, hc, hev, Deferred.ofValue, Sem.run_pure]
        · simp only [invoke]
          exact run_callFunc hfn hn hb _ _
        · have hle : e.le (e.bind h0.next w0.heap.size 0) := Env.le_bind (H.freshφ _ (Nat.le_refl _))
          have hst := St.allocO H (.loop { state := .ready, pending := none, tmps := aa.tmps, params := ps, assign, body, defers := df }) (.loop L0) (by simp)
            ⟨w0.heap.size, 0, Env.bind_same _ _ _ _, H.base, _, heap_alloc_new w0 _, by subst hL0; exact ⟨rfl, rfl, hA.tmps.mono hle, rfl, rfl, rfl, o, hle.φ _ _ hD⟩⟩
          refine hs _ _ hcall _ _ _ _ _ hst.hr ?_ (fun e2 v' w2 hst2 hv2 => ?_)
          · have hy : VRs (e.bind h0.next w0.heap.size 0) [.yield h0.next] [.func (.yield w0.heap.size) #[] #[]] := by
              simp only [VRs, VR]
              exact ⟨_, _, rfl, ⟨_, _, Env.bind_same _ _ _ _, rfl⟩, rfl⟩
            have := ((VRs.mono hle _ _ k1).append hy).append (VRs.mono hle _ _ k2)
            simpa using this
          · have hst12 := hst.trans hst2
            have hφ2 := hst2.le.φ _ _ (Env.bind_same e h0.next w0.heap.size 0)
            obtain ⟨hid, hbase, L, hL, hLR⟩ := getLoop_sound hst2.hr hl hφ2
            have hst3 := St.putLoop (l' := { l with state := .exhausted }) (L' := { L with state := .exhausted }) hst2.hr hid hφ2 hbase hL ⟨rfl, hLR.pending, hLR.tmps, hLR.params, hLR.assign, hLR.body, hLR.defers⟩
            refine ⟨L.pending, World.putB w2 w0.heap.size (.loop { L with state := .exhausted }), ?_, ?_⟩
            · have : (L.state == LoopState.busy) = false := by rw [hLR.state]; simpa using hnb
              show (Instr.endLoop w0.heap.size).run P w2 = _
              simp only [Instr.endLoop, Sem.run_bind, run_getLoop hL, Result.andThen_ok, this, Bool.false_eq_true, if_false, run_setObj hL, Sem.run_pure]
            · have hA2 : ActR e2 { aa with defers := mark ++ aa.defers } { a with defers := dl ++ a.defers } := by
                refine ⟨hA.tmps.mono hst12.le, ?_⟩
                have app : ∀ {l : List ADf} {m : List Deferred}, DefsR e2 l m → DefsR e2 (l ++ aa.defers) (m ++ a.defers) := by
                  intro l
                  induction l with
                  | nil => intro m hm; simp only [DefsR] at hm; subst hm; exact hA.defers.mono hst12.le
                  | cons d l ih =>
                    intro m hm
                    simp only [DefsR] at hm
                    obtain ⟨x1, l1, rfl, q1, q2⟩ := hm
                    simp only [List.cons_append, DefsR]
                    exact ⟨_, _, rfl, q1, ih q2⟩
                exact app (hdl.mono hst12.le)
              have := key e2 { a with defers := dl ++ a.defers } _ F n Q hst3.hr hA2 (hF.mono hst12.le) (fun e' a' w' hst4 hA4 => hQ e' a' w' ((hst12.trans hst3).trans hst4) hA4)
              rw [← hLR.pending] at this
              exact this
    · cases hgo
  · cases hgo

theorem stepJ_sound {draw : ((Job G) → Option (Res G)) → Option Nat → Array Oper → (AAct G) → (AH G) → Option (Res G)} (hd : DrawOK P draw) {self : (Job G) → Option (Res G)} (hs : SelfOK P self) : SelfOK P (stepJ P draw self) := by
  intro j r hj
  cases j with
  | code rd c aa h =>
    cases c with
    | skip =>
      simp only [stepJ] at hj; cases hj
      exact fun e a w F n Q H hA hF hQ => wpIn_skip (hQ e a w (St.refl H) hA)
    | label l =>
      simp only [stepJ] at hj; cases hj
      exact fun e a w F n Q H hA hF hQ => wpIn_label (hQ e a w (St.refl H) hA)
    | region id ops dr =>
      cases dr with
      | false =>
        simp only [stepJ] at hj
        have k := hs _ _ hj
        cases r with
        | at_ x aa' h' => exact fun e a w F n Q H hA hF hQ => wpIn_region (k e a w F n Q H hA hF hQ)
        | ret v h' => exact k.elim
      | true =>
        simp only [stepJ] at hj
        exact hd self hs rd ops aa h r id hj
    | seq x y =>
      simp only [stepJ] at hj
      split at hj
      · rename_i a1 h1 hx
        have k1 := hs _ _ hx
        have k2 := hs _ _ hj
        obtain ⟨x', aa', h', rfl⟩ := k2.code_res
        exact fun e a w F n Q H hA hF hQ => wpIn_seq (k1 e a w F n _ H hA hF (fun e1 a1' w1 hst hA1 =>
          k2 e1 a1' w1 F n Q hst.hr hA1 (hF.mono hst.le) (fun e2 a2 w2 hst2 hA2 => hQ e2 a2 w2 (hst.trans hst2) hA2)))
      · rename_i hne
        have k1 := hs _ _ hj
        obtain ⟨x', aa', h', rfl⟩ := k1.code_res
        exact fun e a w F n Q H hA hF hQ => wpIn_seq (k1 e a w F n _ H hA hF (fun e1 a1' w1 hst hA1 => then_ne (fun hx => by subst hx; exact hne _ _ hj) (hQ e1 a1' w1 hst hA1)))
    | cond c x y =>
      simp only [stepJ] at hj
      split at hj
      · rename_i hc
        have k := hs _ _ hj
        obtain ⟨x', aa', h', rfl⟩ := k.code_res
        exact fun e a w F n Q H hA hF hQ => wpIn_cond_true (rho_sound hA.tmps hc).bool (k e a w F n Q H hA hF hQ)
      · rename_i hc
        have k := hs _ _ hj
        obtain ⟨x', aa', h', rfl⟩ := k.code_res
        exact fun e a w F n Q H hA hF hQ => wpIn_cond_false (rho_sound hA.tmps hc).bool (k e a w F n Q H hA hF hQ)
      · cases hj
    | block id x =>
      simp only [stepJ] at hj
      split at hj
      · rename_i id' a1 h1 hx
        cases hj
        have k := hs _ _ hx
        refine fun e a w F n Q H hA hF hQ => wpIn_block (k e a w F n _ H hA hF (fun e1 a1' w1 hst hA1 => ?_))
        have := hQ e1 a1' w1 hst hA1
        by_cases hid : id' = id
        · rw [if_pos hid] at this; simp only [Exit.inBlock, if_pos hid]; exact this
        · rw [if_neg hid] at this; simp only [Exit.inBlock, if_neg hid]; exact this
      · rename_i hne
        have k := hs _ _ hj
        obtain ⟨x', aa', h', rfl⟩ := k.code_res
        refine fun e a w F n Q H hA hF hQ => wpIn_block (k e a w F n _ H hA hF (fun e1 a1' w1 hst hA1 => ?_))
        have := hQ e1 a1' w1 hst hA1
        cases x' <;> first | exact this | exact absurd hj (hne _ _ _)
    | loop x =>
      simp only [stepJ] at hj
      obtain ⟨x', aa', h', rfl, k⟩ := loopA_sound hs loopMost hj
      exact fun e a w F n Q H hA hF hQ => wpIn_loop_rounds loopMost (k e a w F n Q H hA hF hQ)
    | exit id =>
      simp only [stepJ] at hj; cases hj
      exact fun e a w F n Q H hA hF hQ => wpIn_exit (hQ e a w (St.refl H) hA)
    | goto l =>
      simp only [stepJ] at hj; cases hj
      exact fun e a w F n Q H hA hF hQ => wpIn_goto (hQ e a w (St.refl H) hA)
    | ret =>
      simp only [stepJ] at hj; cases hj
      exact fun e a w F n Q H hA hF hQ => wpIn_ret (hQ e a w (St.refl H) hA)
    | scope x =>
      simp only [stepJ] at hj
      split at hj
      · cases hj
      · rename_i hne
        have k := hs _ _ hj
        obtain ⟨x', aa', h', rfl⟩ := k.code_res
        refine fun e a w F n Q H hA hF hQ => wpIn_scope_calm (k e a w F n _ H hA hF (fun e1 a1' w1 hst hA1 => ?_))
        have := hQ e1 a1' w1 hst hA1
        cases x' <;> first | exact this | exact absurd hj (hne _ _ _)
    | refuse why => simp only [stepJ] at hj; cases hj
    | rangeFunc g ps assign body =>
      simp only [stepJ] at hj
      split at hj
      · rename_i f first cap hg
        split at hj
        · rename_i fn hfn
          split at hj
          · rename_i hc
            split at hj
            · -- an outermost loop
              obtain ⟨x, aa', h', rfl, k⟩ := range_go_sound hs hg hfn hc.1 hc.2 hj
              refine fun e a w F n Q H hA hF hQ => ?_
              have hst := St.allocO H (.defd (some [])) (.deferred (some [])) (by simp) ⟨w.heap.size, 0, Env.bind_same _ _ _ _, H.base, heap_alloc_new w _⟩
              refine k _ a w _ F n Q [{ target := .collected w.heap.size, args := #[] }] w.heap.size 0 hst.hr (hA.mono hst.le) (hF.mono hst.le) (Env.bind_same _ _ _ _) ?_ (fun fnid => ?_) (fun e' a' w' h1 h2 => hQ e' a' w' (hst.trans h1) h2)
              · simp only [DefsR, DefR]
                exact ⟨_, _, rfl, ⟨_, _, Env.bind_same _ _ _ _, rfl⟩, rfl⟩
              · cases (show F = Fence.wide from hF)
                simp [Instr.enterLoop, Fence.wide]
            · rename_i lid
              split at hj
              · rename_i l hl
                obtain ⟨x, aa', h', rfl, k⟩ := range_go_sound hs hg hfn hc.1 hc.2 hj
                refine fun e a w F n Q H hA hF hQ => ?_
                have hF0 := hF
                obtain ⟨b, o, hφ, rfl⟩ := hF0
                obtain ⟨hid, hbase, L, hL, hLR⟩ := getLoop_sound H hl hφ
                obtain ⟨o2, hdf⟩ := hLR.defers
                refine k e a w w _ n Q [] L.defers o2 H hA hF hdf rfl (fun fnid => ?_) hQ
                simp [Instr.enterLoop, run_getLoop hL]
              · cases hj
          · cases hj
        · cases hj
      · cases hj
  | ops rd ops l aa h =>
    cases l with
    | nil =>
      simp only [stepJ] at hj; cases hj
      exact fun e a w F n Q H hA hF hQ => hQ e a w (St.refl H) hA
    | cons i rest =>
      simp only [stepJ] at hj
      split at hj
      · rename_i ho
        have k := hs _ _ hj
        cases r with
        | ret v h' => exact k.elim
        | at_ x aa' h' =>
          refine fun e a w F n Q H hA hF hQ => ?_
          simp only [wpOpsIn, ho]
          exact k e a w F n Q H hA hF hQ
      · rename_i o ho
        split at hj
        · rename_i hw
          split at hj
          · rename_i v h1 hop
            have k := hs _ _ hj
            cases r with
            | ret v h' => exact k.elim
            | at_ x aa' h' =>
              refine fun e a w F n Q H hA hF hQ => ?_
              simp only [wpOpsIn, ho, wantA_sound hA.tmps hw, if_true]
              exact opA_val H hA hF hop (fun e1 w1 v' hst hv => k e1 _ w1 F n Q hst.hr ((hA.mono hst.le).put o.dst hv) (hF.mono hst.le) (fun e2 a2 w2 hst2 hA2 => hQ e2 a2 w2 (hst.trans hst2) hA2))
          · rename_i f args hop
            split at hj
            · rename_i v h1 hcall
              have k := hs _ _ hj
              have kc := hs _ _ hcall
              cases r with
              | ret v h' => exact k.elim
              | at_ x aa' h' =>
                refine fun e a w F n Q H hA hF hQ => ?_
                simp only [wpOpsIn, ho, wantA_sound hA.tmps hw, if_true]
                obtain ⟨vs, k1, k2, k3⟩ := opA_call hA hop
                refine ⟨fun f' _ => hF.fn f', ?_⟩
                rw [semAt_plain k3, k2]
                refine ⟨hF.depth n, hF.calls (kc e vs w (n - 1) _ H k1 (fun e1 v' w1 hst hv => ?_))⟩
                exact k e1 _ w1 F n Q hst.hr ((hA.mono hst.le).put o.dst hv) (hF.mono hst.le) (fun e2 a2 w2 hst2 hA2 => hQ e2 a2 w2 (hst.trans hst2) hA2)
            · cases hj
          · rename_i lid args hop
            split at hj
            · rename_i v h1 hcall
              have k := hs _ _ hj
              have kc := hs _ _ hcall
              cases r with
              | ret v h' => exact k.elim
              | at_ x aa' h' =>
                refine fun e a w F n Q H hA hF hQ => ?_
                simp only [wpOpsIn, ho, wantA_sound hA.tmps hw, if_true]
                obtain ⟨vs, b, o', hφ, k1, k2, k3⟩ := opA_round hA hop
                refine ⟨fun f' _ => hF.fn f', ?_⟩
                rw [semAt_plain k3, k2]
                obtain ⟨f', tm, as, bd, y1, y2⟩ := kc e vs w (n - 1) (fun
                  | .returned v, w'' => wpOpsIn F n P ops Q rest (a.put o.dst v) w''
                  | .panicked chain, w'' => Q (.panic chain) a w''
                  | .outgrown, _ => LetsOut Q) b o' H k1 hφ (fun e1 v' w1 hst hv =>
                    k e1 _ w1 F n Q hst.hr ((hA.mono hst.le).put o.dst hv) (hF.mono hst.le) (fun e2 a2 w2 hst2 hA2 => hQ e2 a2 w2 (hst.trans hst2) hA2))
                rw [y1]
                exact ⟨hF.depth n, hF.rounds y2⟩
            · cases hj
          · cases hj
        · rename_i hw
          have k := hs _ _ hj
          cases r with
          | ret v h' => exact k.elim
          | at_ x aa' h' =>
            refine fun e a w F n Q H hA hF hQ => ?_
            simp only [wpOpsIn, ho, wantA_sound hA.tmps hw, Bool.false_eq_true, if_false]
            exact ⟨fun f' _ => hF.fn f', k e _ w F n Q H (hA.put o.dst VR_undef) hF hQ⟩
        · cases hj
  | call f args h =>
    simp only [stepJ] at hj
    split at hj
    · rename_i fn hfn
      split at hj
      · rename_i c hc
        split at hj
        · rename_i x a1 h1 hcode
          split at hj
          · rename_i hx
            split at hj
            · rename_i h2 hlv
              split at hj
              · rename_i vs hvs
                cases hj
                have k := hs _ _ hcode
                refine fun e us w n R H hv hR => callsIn_of_wp_marks hfn hc trivial ?_
                refine k e _ w _ n _ H ⟨?_, rfl⟩ rfl (fun e1 a1' w1 hst hA1 => ?_)
                · exact ofT_sound _ hv
                · have hleave : LeavesInM Fence.wide n P fn a1'.tmps R a1'.defers .returning w1 := by
                    refine leaveA_sound hlv hst.hr hA1.defers (fun w2 hst2 => ?_)
                    obtain ⟨v', k1, k2⟩ := results_sound (P := P) hst2.hr hA1.tmps hvs
                    exact ⟨v', k2, hR e1 v' w2 (hst.trans hst2) k1⟩
                  cases x <;> first | exact hleave | (cases hx; done)
              · cases hj
            · cases hj
          · cases hj
        · cases hj
      · cases hj
    · cases hj
  | round id args h => exact round_sound hs hj

/-- The evaluator: so many levels deep. -/
def ev (P : Program) (draw : ((Job G) → Option (Res G)) → Option Nat → Array Oper → (AAct G) → (AH G) → Option (Res G)) (n : Nat) : (Job G) → Option (Res G) :=
  Nat.rec (fun _ => none) (fun _ self => stepJ P draw self) n

theorem ev_sound {draw : ((Job G) → Option (Res G)) → Option Nat → Array Oper → (AAct G) → (AH G) → Option (Res G)} (hd : DrawOK P draw) : ∀ n, SelfOK P (ev P draw n)
  | 0 => fun _ _ h => by cases h
  | n + 1 => stepJ_sound hd (ev_sound hd n)
end
end Go.Ev

