import Derived.Test.YtdpegcimhhegmaaEvB
import Derived.RecoverIn
set_option linter.unusedVariables false
set_option linter.unusedSimpArgs false
set_option linter.unusedSectionVars false
noncomputable section
namespace Go.Ev
variable {G : Ctx}
section
variable {P : Program} {e : (Env G)} {a : Act} {tm : (TT G)} {h : (AH G)} {w : World}

theorem cells_sound (H : HR e h w) {id b x : Nat} {vs : List (AV G)} {g : Option Nat} (hid : h.objs.get id = some (.cells vs g)) (hφ : e.φ id = some (b, x)) : ∀ (i : Nat) (v : (AV G)), vs[i]? = some v → ∃ v', w.cell? ⟨b, x + i, none⟩ = some v' ∧ VR e v v' := by
  intro i v hi
  cases g with
  | some g =>
    obtain ⟨b', h1, _, c, t, h3, _, h4⟩ := H.obj _ _ hid
    rw [hφ] at h1; cases h1
    obtain ⟨v', h5, h6⟩ := h4 i v hi
    exact ⟨v', by rw [Nat.zero_add, cell_of_row w b i c t (0, 0) h3]; exact h5, h6⟩
  | none =>
    obtain ⟨b', o, h1, _, h4⟩ := H.obj _ _ hid
    rw [hφ] at h1; cases h1
    exact h4 i v hi

theorem vals_of {f : Nat → Option Value} : ∀ {vs : List (AV G)} (k : Nat), (∀ (i : Nat) (v : (AV G)), vs[i]? = some v → ∃ v', f (k + i) = some v' ∧ VR e v v') → ∃ vals : List Value, VRs e vs vals ∧ ∀ j v, vals[j]? = some v → f (k + j) = some v
  | [], k, _ => ⟨[], by simp [VRs], fun j v hv => by simp at hv⟩
  | a :: vs, k, hh => by
    obtain ⟨v, h1, h2⟩ := hh 0 a rfl
    obtain ⟨vals, h3, h4⟩ := vals_of (vs := vs) (k + 1) (fun i v hv => by have := hh (i + 1) v (by simpa using hv); rwa [show k + (i + 1) = k + 1 + i by omega] at this)
    refine ⟨v :: vals, by simp only [VRs]; exact ⟨v, vals, rfl, h2, h3⟩, fun j u hu => ?_⟩
    cases j with
    | zero => simp at hu; subst hu; exact h1
    | succ j => have := h4 j u (by simpa using hu); rwa [show k + 1 + j = k + (j + 1) by omega] at this

theorem read_sound (H : HR e h w) {id b x off n : Nat} {cs : List (AV G)} (hr : h.read id off n = some cs) (hφ : e.φ id = some (b, x)) : cs.length = n ∧ ∃ vals, VRs e cs vals ∧ w.rangeAt b (x + off) vals := by
  unfold AH.read at hr
  split at hr
  · rename_i vs g hid
    unfold sub at hr
    split at hr
    · rename_i hlen
      cases hr
      refine ⟨by simp; omega, ?_⟩
      obtain ⟨vals, h1, h2⟩ := vals_of (e := e) (f := fun i => w.cell? ⟨b, i, none⟩) (vs := (vs.drop off).take n) (x + off) (fun i v hv => by
        have hi : i < n := by have := (List.getElem?_eq_some_iff.1 hv).1; simp at this; omega
        rw [List.getElem?_take, if_pos hi, List.getElem?_drop] at hv
        obtain ⟨v', k1, k2⟩ := cells_sound H hid hφ (off + i) v hv
        exact ⟨v', by rw [Nat.add_assoc]; exact k1, k2⟩)
      exact ⟨vals, h1, h2⟩
    · cases hr
  · cases hr

theorem read1_sound (H : HR e h w) {id b x off : Nat} {v : (AV G)} (hr : h.read1 id off = some v) (hφ : e.φ id = some (b, x)) : ∃ v', VR e v v' ∧ w.cell? ⟨b, x + off, none⟩ = some v' := by
  unfold AH.read1 at hr
  split at hr
  · rename_i vs g hid
    obtain ⟨v', k1, k2⟩ := cells_sound H hid hφ off v hr
    exact ⟨v', k2, k1⟩
  · cases hr

theorem rowOf_some {t : TypeId} {n : Nat} (h : rowOf P t = some (some n)) : ∃ d, P.underlying t = some d ∧ d.isRow = true ∧ (P.info? t).map (·.size) = some n := by
  unfold rowOf at h
  split at h
  · rename_i fs hu; obtain ⟨i, h1, h2⟩ := Option.map_eq_some_iff.1 h; cases h2; exact ⟨_, hu, rfl, by simp [h1]⟩
  · rename_i fs hu; obtain ⟨i, h1, h2⟩ := Option.map_eq_some_iff.1 h; cases h2; exact ⟨_, hu, rfl, by simp [h1]⟩
  · cases h
  · cases h

theorem rowOf_none {t : TypeId} (h : rowOf P t = some none) : ∃ d, P.underlying t = some d ∧ isRowD d = false := by
  unfold rowOf at h
  split at h
  · obtain ⟨i, h1, h2⟩ := Option.map_eq_some_iff.1 h; cases h2
  · obtain ⟨i, h1, h2⟩ := Option.map_eq_some_iff.1 h; cases h2
  · rename_i d h1 h2 hu
    refine ⟨d, hu, ?_⟩
    cases d <;> first | rfl | exact absurd rfl (h1 _) | exact absurd rfl (h2 _ _)
  · cases h

theorem ents_sound (H : HR e h w) {id b x : Nat} {es : List ((AV G) × (AV G))} (hr : h.ents id = some es) (hφ : e.φ id = some (b, x)) : ∃ ents clk, w.heap[b]? = some (.map ents clk) ∧ EntsR e es ents.toList := by
  unfold AH.ents at hr
  split at hr
  · rename_i es' hid
    cases hr
    obtain ⟨b', o, h1, _, c, t, h3, h4⟩ := H.obj _ _ hid
    rw [hφ] at h1; cases h1
    exact ⟨c, t, h3, h4⟩
  · cases hr

/-! ### keys -/
theorem chkFs_sound {rec : TypeId → (AV G) → Bool} {d : Nat} {em : Bool} (hrec : ∀ t a x, rec t a = true → VR e a x → ∀ w, (Instr.checkKey em d t x).run P w = .ok () w) {cs : List (AV G)} {xs : Array Value} (hx : VRs e cs xs.toList) :
    ∀ {fs : List Field}, chkFs P rec cs fs = true → ∀ w, ((forIn fs () (fun f _ => do
      if f.name ≠ "_" then
        Instr.checkKey em d f.type (← part f.type xs f.offset)
      pure (ForInStep.yield ())) : Sem Unit)).run P w = .ok () w
  | [], _, w => by simp
  | f :: fs, hk, w => by
    simp only [chkFs] at hk
    simp only [List.forIn_cons]
    split at hk
    · rename_i hn
      split at hk
      · rename_i a ha
        obtain ⟨a', h1, h2⟩ := part_sound hx ha
        simp only [Bool.and_eq_true] at hk
        have h3 := hrec _ _ _ hk.1 h1
        have h4 := chkFs_sound (em := em) hrec hx hk.2 w
        simp [hn, h2, h3]
        simpa using h4
      · cases hk
    · rename_i hn
      have h4 := chkFs_sound (em := em) hrec hx hk w
      simp [hn]
      simpa using h4

theorem chkEs_sound {rec : (AV G) → Bool} {d n : Nat} {em : Bool} {elem : TypeId} (hrec : ∀ a x, rec a = true → VR e a x → ∀ w, (Instr.checkKey em d elem x).run P w = .ok () w) (hsz : szOf P elem = some n) {cs : List (AV G)} {xs : Array Value} (hx : VRs e cs xs.toList) :
    ∀ {l : List Nat}, chkEs P rec elem n cs l = true → ∀ w, ((forIn l () (fun i _ => do
      Instr.checkKey em d elem (← part elem xs (i * (← sizeOf elem)))
      pure (ForInStep.yield ())) : Sem Unit)).run P w = .ok () w
  | [], _, w => by simp
  | i :: l, hk, w => by
    simp only [chkEs] at hk
    split at hk
    · rename_i a ha
      obtain ⟨a', h1, h2⟩ := part_sound hx ha
      simp only [Bool.and_eq_true] at hk
      have h3 := hrec _ _ hk.1 h1
      have h4 := chkEs_sound (em := em) hrec hsz hx hk.2 w
      simp only [List.forIn_cons]
      simp [run_sizeOf hsz, h2, h3]
      simpa using h4
    · cases hk

theorem chkA_sound {em : Bool} : ∀ {f : Nat} {t : TypeId} {a : (AV G)} {x : Value}, chkA P f t a = true → VR e a x → ∀ d, f ≤ d → ∀ w, (Instr.checkKey em d t x).run P w = .ok () w
  | 0, _, _, _, h, _, _, _, _ => by simp [chkA] at h
  | f + 1, t, a, x, h, ha, 0, hd, _ => by omega
  | f + 1, t, a, x, h, ha, d + 1, hd, w => by
    have ih : ∀ t a x, chkA P f t a = true → VR e a x → ∀ w, (Instr.checkKey em d t x).run P w = .ok () w := fun t a x h h1 => chkA_sound h h1 d (by omega)
    unfold chkA at h
    split at h
    · rename_i fs cs hu
      obtain ⟨xs, rfl, hx⟩ := ha.agg
      have := chkFs_sound (em := em) ih hx h w
      simp only [Instr.checkKey, Sem.run_bind, run_underlying hu, Result.andThen_ok]
      rw [← Array.forIn_toList]
      simp at this ⊢
      simp [this]
    · rename_i len el cs hu
      obtain ⟨xs, rfl, hx⟩ := ha.agg
      split at h
      · rename_i n hn
        have := chkEs_sound (em := em) (ih el) hn hx h w
        simp only [Instr.checkKey, Sem.run_bind, run_underlying hu, Result.andThen_ok]
        rw [Std.Legacy.Range.forIn_eq_forIn_range']
        simp only [Std.Legacy.Range.size, Nat.sub_zero, Nat.add_sub_cancel, Nat.div_one, ← List.range_eq_range']
        simp at this ⊢
        simp [this]
      · cases h
    · rename_i hu; cases ha.bool; simp [Instr.checkKey, run_underlying hu]
    · rename_i hu; cases ha.int; simp [Instr.checkKey, run_underlying hu]
    · rename_i hu; simp only [VR] at ha; obtain ⟨rfl, _⟩ := ha; simp [Instr.checkKey, run_underlying hu]
    · rename_i hu; cases ha.str; simp [Instr.checkKey, run_underlying hu]
    · cases h

theorem sameNow_sound {kt : TypeId} {d : TypeDesc} (hd : P.underlying kt = some d) {k k' : Value} {b : Bool} (h : Instr.sameNow d k k' = some b) (w : World) : (Op.equal kt k k').run P w = .ok b w := by
  show (Op.equalIn (9999 + 1) kt k k').run P w = _
  unfold Instr.sameNow at h
  split at h
  · split at h
    · rename_i hk
      cases h; subst hk; exact run_equalIn_int w 9999 kt _ _ _ _ hd
    · cases h
  · cases h; rw [run_equalIn_string w 9999 kt _ _ hd, beq_toListBytes]
  · cases h; exact run_equalIn_bool' w 9999 kt _ _ hd
  · cases h

theorem findNow_sound {kt : TypeId} {d : TypeDesc} (hd : P.underlying kt = some d) {k : Value} : ∀ {es : List MapEntry} {i : Nat} {r : Option (Nat × Value)}, Instr.findNow d k es i = some r → ∀ w, (Instr.findAsking kt k es i).run P w = .ok r w
  | [], i, r, h, w => by simp only [Instr.findNow] at h; cases h; simp [Instr.findAsking]
  | x :: es, i, r, h, w => by
    simp only [Instr.findNow] at h
    split at h
    · rename_i hs; cases h; simp [Instr.findAsking, sameNow_sound hd hs]
    · rename_i hs; simp [Instr.findAsking, sameNow_sound hd hs]; exact findNow_sound hd h w
    · cases h

theorem run_findKey {kt : TypeId} {d : TypeDesc} (hd : P.underlying kt = some d) {k : Value} {es : List MapEntry} {r : Option (Nat × Value)} (h : ∀ w, (Instr.findAsking kt k es 0).run P w = .ok r w) (w : World) : (Instr.findKey kt k es).run P w = .ok r w := by
  simp only [Instr.findKey, Sem.run_bind, run_underlying hd, Result.andThen_ok]
  split
  · rename_i r' hr
    have h1 := findNow_sound hd hr w
    rw [h w] at h1; cases h1
    simp
  · exact h w

theorem findA_sound {kt : TypeId} {k : (AV G)} {kv : Value} (hk : VR e k kv) : ∀ {es : List ((AV G) × (AV G))} {ents : List MapEntry} {r : Option (AV G)} (i : Nat), findA P kt k es = some r → EntsR e es ents →
    ∃ r' : Option (Nat × Value), (∀ w, (Instr.findAsking kt kv ents i).run P w = .ok r' w) ∧ (match r, r' with | none, none => True | some v, some (_, v') => VR e v v' | _, _ => False)
  | [], ents, r, i, h, hE => by
    simp only [EntsR] at hE; subst hE
    simp only [findA] at h; cases h
    exact ⟨none, fun w => by simp [Instr.findAsking], trivial⟩
  | (k', v) :: es, ents, r, i, h, hE => by
    simp only [EntsR] at hE
    obtain ⟨x, es', rfl, h1, h2, h3⟩ := hE
    simp only [findA] at h
    split at h
    · rename_i hq
      cases h
      have := fun w => eqA_sound hq hk h1 10000 (by decide) w
      exact ⟨some (i, x.val), fun w => by simp [Instr.findAsking, Op.equal, Op.maxDepth, this], h2⟩
    · rename_i hq
      have := fun w => eqA_sound hq hk h1 10000 (by decide) w
      obtain ⟨r', k1, k2⟩ := findA_sound hk (i + 1) h h3
      exact ⟨r', fun w => by simp [Instr.findAsking, Op.equal, Op.maxDepth, this, k1], k2⟩
    · cases h

theorem run_zeroValue {t : TypeId} {i : TypeInfo} {v : Value} (hi : P.info? t = some i) (hz : i.zero = some v) (w : World) : (zeroValue t).run P w = .ok v w := by simp [zeroValue, typeInfo, hi, hz]

theorem readOp_sound (H : HR e h w) (ht : TRs e tm a.tmps) {o : Oper} {v : (AV G)} (hr : readOp P tm h o.op = some v) : ∃ v', VR e v v' ∧ (execOp a.eval o).run P w = .ok (.value v') w := by
  unfold readOp at hr
  split at hr
  · rename_i t x ho
    split at hr
    · rename_i id off n hx hrow
      obtain ⟨cs, hcs, rfl⟩ := Option.map_eq_some_iff.1 hr
      obtain ⟨b, o', hφ, h1⟩ := (rho_sound ht hx).ptr
      obtain ⟨hl, vals, h2, h3⟩ := read_sound H hcs hφ
      obtain ⟨d, hu, hd, hi⟩ := rowOf_some hrow
      refine ⟨.agg vals.toArray, by simp only [VR]; exact ⟨_, rfl, by simpa using h2⟩, ?_⟩
      have := run_loadAt_mid (P := P) w b (o' + off) t vals d h3 hu hd (by rw [hi, h2.length, hl])
      simp [execOp, ho, h1, this]
    · rename_i id off hx hrow
      obtain ⟨b, o', hφ, h1⟩ := (rho_sound ht hx).ptr
      obtain ⟨v', h2, h3⟩ := read1_sound H hr hφ
      obtain ⟨d, hu, hd⟩ := rowOf_none hrow
      refine ⟨v', h2, ?_⟩
      simp [execOp, ho, h1, Instr.loadAt, Instr.sureAddr, loadVar, run_isAgg hu, hd, h3]
    · cases hr
  · rename_i t x i ok ho
    split at hr
    · rename_i kt et m k hu hm hk
      split at hr
      · rename_i hck
        split at hr
        · rename_i es hes
          have hkv := rho_sound ht hk
          have hmv := rho_sound ht hm
          -- the entries, in the world
          have hents : ∃ l : List MapEntry, EntsR e es l ∧ ((a.eval x = .map none ∧ l = []) ∨ ∃ b ents clk, a.eval x = .map (some b) ∧ w.heap[b]? = some (.map ents clk) ∧ l = ents.toList) := by
            cases m <;> first | (cases hes; done) | skip
            · rename_i id
              have h0 := hmv; simp only [VR] at h0
              obtain ⟨b, o', hφ, h1⟩ := h0
              obtain ⟨ents, clk, h2, h3⟩ := ents_sound H hes hφ
              exact ⟨ents.toList, h3, .inr ⟨b, ents, clk, h1, h2, rfl⟩⟩
            · cases hes
              have h0 := hmv; simp only [VR] at h0
              exact ⟨[], by simp [EntsR], .inl ⟨h0, rfl⟩⟩
          obtain ⟨l, hE, hmx⟩ := hents
          have hchk := fun em w => chkA_sound (em := em) hck hkv 10000 (by decide) w
          obtain ⟨d, hd⟩ : ∃ d, P.underlying kt = some d := by
            unfold eqFuel at hck; unfold chkA at hck
            split at hck <;> first | exact ⟨_, ‹_›⟩ | cases hck
          split at hr
          · rename_i v' hf
            cases hr
            obtain ⟨r', k1, k2⟩ := findA_sound hkv 0 hf hE
            cases r' with
            | none => exact k2.elim
            | some p =>
              obtain ⟨n, pv⟩ := p
              have hfk := fun w => run_findKey hd k1 w
              cases ok with
              | true =>
                refine ⟨.tuple #[pv, .bool true], by simp only [if_true, VR]; exact ⟨_, rfl, by simp only [VRs]; exact ⟨_, _, rfl, k2, _, _, rfl, by simp [VR], rfl⟩⟩, ?_⟩
                rcases hmx with ⟨h1, rfl⟩ | ⟨b, ents, clk, h1, h2, rfl⟩
                · simp [execOp, ho, Instr.lookup, run_underlying hu, h1, hchk, hfk]
                · simp [execOp, ho, Instr.lookup, run_underlying hu, h1, getObj, Sem.run, h2, hchk, hfk]
              | false =>
                refine ⟨pv, by simpa using k2, ?_⟩
                rcases hmx with ⟨h1, rfl⟩ | ⟨b, ents, clk, h1, h2, rfl⟩
                · simp [execOp, ho, Instr.lookup, run_underlying hu, h1, hchk, hfk]
                · simp [execOp, ho, Instr.lookup, run_underlying hu, h1, getObj, Sem.run, h2, hchk, hfk]
          · rename_i hf
            split at hr
            · rename_i z hz
              cases hr
              obtain ⟨r', k1, k2⟩ := findA_sound hkv 0 hf hE
              obtain ⟨ti, zv, hi, hzv, hzr⟩ := zeroOf_sound (e := e) hz
              cases r' with
              | some p => obtain ⟨n, pv⟩ := p; exact k2.elim
              | none =>
                have hfk := fun w => run_findKey hd k1 w
                have hzrun := fun w => run_zeroValue (P := P) hi hzv w
                cases ok with
                | true =>
                  refine ⟨.tuple #[zv, .bool false], by simp only [if_true, VR]; exact ⟨_, rfl, by simp only [VRs]; exact ⟨_, _, rfl, hzr, _, _, rfl, by simp [VR], rfl⟩⟩, ?_⟩
                  rcases hmx with ⟨h1, rfl⟩ | ⟨b, ents, clk, h1, h2, rfl⟩
                  · simp [execOp, ho, Instr.lookup, run_underlying hu, h1, hchk, hfk, hzrun]
                  · simp [execOp, ho, Instr.lookup, run_underlying hu, h1, getObj, Sem.run, h2, hchk, hfk, hzrun]
                | false =>
                  refine ⟨zv, by simpa using hzr, ?_⟩
                  rcases hmx with ⟨h1, rfl⟩ | ⟨b, ents, clk, h1, h2, rfl⟩
                  · simp [execOp, ho, Instr.lookup, run_underlying hu, h1, hchk, hfk, hzrun]
                  · simp [execOp, ho, Instr.lookup, run_underlying hu, h1, getObj, Sem.run, h2, hchk, hfk, hzrun]
            · cases hr
          · cases hr
        · cases hr
      · cases hr
    · cases hr
  · cases hr
end
end Go.Ev
end

noncomputable section
namespace Go.Ev
variable {G : Ctx}
section
variable {P : Program} {e : (Env G)} {a : Act} {tm : (TT G)} {h : (AH G)} {w : World}

/-- What a turning operation does. -/
def Does (P : Program) (e : (Env G)) (h : (AH G)) (w : World) (a : Act) (o : Oper) (v : (AV G)) (h' : (AH G)) : Prop :=
  ∃ e' w' r v', (execOp a.eval o).run P w = .ok r w' ∧ (r = .value v' ∨ (r = .skip ∧ v' = undef)) ∧ VR e' v v' ∧ St e h w e' h' w'

theorem one_sound {b : (AV G)} {v : Value} (h1 : b.one = true) (hv : VR e b v) : v.oneCell' = true := by
  cases b with
  | agg cs => cases h1
  | tuple cs => cases h1
  | opq k => simp only [VR] at hv; subst hv; exact e.one k
  | sx x l u => simp only [VR] at hv; obtain ⟨rfl, _⟩ := hv; rfl
  | bool b => cases hv.bool; rfl
  | int k n => cases hv.int; rfl
  | str s => cases hv.str; rfl
  | ptr id off => obtain ⟨_, _, _, rfl⟩ := hv.ptr; rfl
  | slice id off len cap g => obtain ⟨_, _, _, _, rfl, _⟩ := hv.slice; rfl
  | iface t x => simp only [VR] at hv; obtain ⟨_, rfl, _⟩ := hv; rfl
  | func fn f c => simp only [VR] at hv; obtain ⟨_, _, rfl, _⟩ := hv; rfl
  | map id => simp only [VR] at hv; obtain ⟨_, _, _, rfl⟩ := hv; rfl
  | yield id => simp only [VR] at hv; obtain ⟨_, _, _, rfl⟩ := hv; rfl
  | nilp => simp only [VR] at hv; subst hv; rfl
  | nils => simp only [VR] at hv; subst hv; rfl
  | nilm => simp only [VR] at hv; subst hv; rfl
  | nilf => simp only [VR] at hv; subst hv; rfl
  | nili => simp only [VR] at hv; subst hv; rfl

theorem oneAll_sound : ∀ {l : List (AV G)} {vs : List Value}, oneAll l = true → VRs e l vs → ∀ v ∈ vs, v.oneCell' = true
  | [], vs, _, hv, v, hm => by simp only [VRs] at hv; subst hv; cases hm
  | b :: l, vs, h1, hv, v, hm => by
    simp only [VRs] at hv
    obtain ⟨x, vs', rfl, h2, h3⟩ := hv
    simp only [oneAll, Bool.and_eq_true] at h1
    rcases List.mem_cons.1 hm with rfl | hm
    · exact one_sound h1.1 h2
    · exact oneAll_sound h1.2 h3 v hm

theorem get_of_VRs {l : List (AV G)} {c : Array Value} (h : VRs e l c.toList) : ∀ (i : Nat) (x : (AV G)), l[i]? = some x → ∃ v, c[i]? = some v ∧ VR e x v := fun i x hi => by
  obtain ⟨v, h1, h2⟩ := h.get hi
  exact ⟨v, by simpa using h1, h2⟩

theorem length_reptA (z : List (AV G)) : ∀ n, (reptA z n).length = n * z.length
  | 0 => by simp [reptA]
  | n + 1 => by simp [reptA, length_reptA z n, Nat.succ_mul, Nat.add_comm]

theorem get_reptA (z : List (AV G)) : ∀ (n i : Nat), i < n * z.length → (reptA z n)[i]? = z[i % z.length]?
  | 0, i, h => by simp at h
  | n + 1, i, h => by
    unfold reptA
    by_cases hi : i < z.length
    · rw [List.getElem?_append_left hi, Nat.mod_eq_of_lt hi]
    · rw [List.getElem?_append_right (by omega), get_reptA z n _ (by rw [Nat.succ_mul] at h; omega)]
      congr 1
      rw [← Nat.mod_eq_sub_mod (by omega)]

theorem reptA_sound {z : List (AV G)} {zc : Array Value} (hz : VRs e z zc.toList) (n sz : Nat) (hsz : sz = z.length) : VRs e (reptA z n) ((Array.range (n * sz)).map fun i => zc[i % zc.size]!).toList := by
  have hl : zc.size = z.length := by have := hz.length; simpa using this
  subst hsz
  refine VRs.of_get (by simp [length_reptA]) (fun i x hi => ?_)
  have hin : i < n * z.length := by have := (List.getElem?_eq_some_iff.1 hi).1; rwa [length_reptA] at this
  rw [get_reptA z n i hin] at hi
  obtain ⟨v, h1, h2⟩ := hz.get hi
  refine ⟨v, ?_, h2⟩
  have h1' : zc[i % zc.size]? = some v := by rw [hl]; simpa using h1
  have hb : i % zc.size < zc.size := (Array.getElem?_eq_some_iff.1 h1').1
  simp only [Array.toList_map, Array.toList_range, List.getElem?_map, List.getElem?_range hin, Option.map_some]
  rw [getElem!_pos zc _ hb]
  rw [Array.getElem?_eq_getElem hb] at h1'
  exact h1'

theorem run_newRow (elem : TypeId) (c : Array Value) : (newRow elem c).run P w = .ok ⟨w.heap.size, 0, none⟩ (w.alloc (.cells c elem)) := by
  simp [newRow]

theorem VR_new {c : Array Value} : VR (e.bind h.next w.heap.size c.size) (.ptr h.next 0) (.pointer (some ⟨(w : World).heap.size, 0, none⟩)) ∧ True := by
  refine ⟨?_, trivial⟩
  simp only [VR]; exact ⟨_, _, Env.bind_same _ _ _ _, rfl⟩

theorem store_sound (H : HR e h w) {id off b x : Nat} {cs : List (AV G)} {vals : List Value} {h' : (AH G)} (hw : h.write id off cs = some h') (hv : VRs e cs vals) (h1 : oneAll cs = true) (hφ : e.φ id = some (b, x)) :
    (storeCells ⟨b, x + off, none⟩ vals).run P w = .ok () (w.setCells b off vals) ∧ St e h w e h' (w.setCells b off vals) := by
  obtain ⟨hst, hc, hf, rfl⟩ := St.write H hw hv hφ
  have := run_storeCells_cells (P := P) b off vals 0 w (by simpa using hc) (by simpa using hf) (oneAll_sound h1 hv)
  refine ⟨?_, hst⟩
  rw [Nat.zero_add]
  simpa using this

theorem mapUpdate_sound (H : HR e h w) {t kt et : TypeId} {id : Nat} {k v : (AV G)} {es : List ((AV G) × (AV G))} {mv kv vv : Value} (hu : P.underlying t = some (.map kt et)) (hm : VR e (.map id) mv) (hk : VR e k kv) (hv : VR e v vv)
    (hck : chkA P eqFuel kt k = true) (hes : h.ents id = some es) (hf : findA P kt k es = some none) :
    ∃ w', (Instr.mapUpdate t mv kv vv).run P w = .ok () w' ∧ St e h w e (h.putO id (.map (es ++ [(k, v)]))) w' := by
  simp only [VR] at hm
  obtain ⟨b, o', hφ, rfl⟩ := hm
  obtain ⟨ents, clk, h2, h3⟩ := ents_sound H hes hφ
  obtain ⟨r', k1, k2⟩ := findA_sound (P := P) hk 0 hf h3
  cases r' with
  | some p => obtain ⟨n, pv⟩ := p; exact k2.elim
  | none =>
    obtain ⟨d, hd⟩ : ∃ d, P.underlying kt = some d := by
      unfold eqFuel at hck; unfold chkA at hck
      split at hck <;> first | exact ⟨_, ‹_›⟩ | cases hck
    have hfk := fun w => run_findKey hd k1 w
    have hchk := fun w => chkA_sound (em := false) hck hk 10000 (by decide) w
    have hid : h.objs.get id = some (.map es) := by
      unfold AH.ents at hes
      split at hes
      · rename_i es' hid; cases hes; exact hid
      · cases hes
    have hlt := (Array.getElem?_eq_some_iff.1 h2).1
    refine ⟨World.putB w b (.map (ents.push { key := kv, val := vv, born := clk }) (clk + 1)), ?_, ?_⟩
    · simp [Instr.mapUpdate, run_underlying hu, getObj, setObj, Sem.run, h2, hchk, hfk, World.putB]
    · refine St.putO (o := .map es) H hid rfl (by simp) (by simp) hφ h2 ?_
      have hbase := (H.obj _ _ hid).base_le rfl hφ
      refine ⟨b, o', hφ, hbase, _, _, putB_same h2, ?_⟩
      have app : ∀ {l : List ((AV G) × (AV G))} {m : List MapEntry}, EntsR e l m → EntsR e (l ++ [(k, v)]) (m ++ [{ key := kv, val := vv, born := clk }]) := by
        intro l
        induction l with
        | nil => intro m hm; simp only [EntsR] at hm; subst hm; simp only [List.nil_append, EntsR]; exact ⟨_, _, rfl, hk, hv, rfl⟩
        | cons p l ih =>
          intro m hm
          obtain ⟨p1, p2⟩ := p
          simp only [EntsR] at hm
          obtain ⟨x, es', rfl, q1, q2, q3⟩ := hm
          simp only [List.cons_append, EntsR]
          exact ⟨x, _, rfl, q1, q2, ih q3⟩
      simpa using app h3
end
end Go.Ev
end

noncomputable section
namespace Go.Ev
variable {G : Ctx}
section
variable {P : Program} {e : (Env G)} {h : (AH G)} {w : World}

theorem growBy_le (newLen B : Nat) (hB : 2 * newLen + 1024 ≤ B) : ∀ (r c : Nat), c ≤ B → Builtin.growBy newLen r c ≤ B
  | 0, c, hc => hc
  | r + 1, c, hc => by
    unfold Builtin.growBy
    split
    · exact hc
    · exact growBy_le newLen B hB r _ (by omega)

theorem nextslicecap_le (newLen oldCap : Nat) (h : oldCap < newLen) : Builtin.nextslicecap newLen oldCap ≤ 2 * newLen + 1024 := by
  unfold Builtin.nextslicecap
  split
  · omega
  · split
    · omega
    · exact growBy_le newLen _ (Nat.le_refl _) 4 _ (by omega)

theorem fits_sound {need old bytes : Nat} (h : fitsA need bytes = true) (ho : old < need) : Builtin.nextslicecap need old * bytes ≤ 281474976710656 ∧ ((need : Nat) : Int) ≤ 9223372036854775807 := by
  unfold fitsA at h
  simp only [Bool.and_eq_true, decide_eq_true_eq] at h
  refine ⟨Nat.le_trans (Nat.mul_le_mul_right _ (nextslicecap_le need old ho)) h.1, by omega⟩

theorem bytesA_sound (s : ByteArray) : VRs e (bytesA s) (byteCells s) := by
  unfold bytesA byteCells
  generalize s.data.toList = l
  induction l with
  | nil => simp [VRs]
  | cons b l ih => simp only [List.map_cons, VRs]; exact ⟨_, _, rfl, by simp [VR], ih⟩

theorem newsOf_sound (H : HR e h w) {tx : TypeId} {size n : Nat} {x : (AV G)} {news : List (AV G)} {xv : Value} (hn : newsOf P h tx size x = some (n, news)) (hx : VR e x xv) (h1 : oneAll news = true) :
    ∃ vals, VRs e news vals ∧ Src P size tx xv n vals w := by
  unfold newsOf at hn
  split at hn
  · rename_i el hu
    cases hn
    simp only [VR] at hx; subst hx
    exact ⟨[], by simp [VRs], Src.ofNil w hu 0⟩
  · rename_i el id off len cap g hu
    split at hn
    · rename_i cs hcs
      cases hn
      obtain ⟨b, o, c, hφ, rfl, _⟩ := hx.slice
      obtain ⟨hl, vals, k1, k2⟩ := read_sound H hcs hφ
      refine ⟨vals, k1, Src.ofSlice w hu ⟨b, o + off, none⟩ n c vals (by rw [k1.length, hl]) (fun j u hj => by rw [addr_add]; exact k2 j u hj) (oneAll_sound h1 k1)⟩
    · cases hn
  · rename_i s hu
    split at hn
    · rename_i hs
      cases hn
      cases hx.str
      subst hs
      exact ⟨byteCells s, bytesA_sound s, Src.ofString w hu s⟩
    · cases hn
  · cases hn

/-- A new row behind an append: the world, and what is known of it. -/
theorem grown_sound {t tx ty el : TypeId} {i : TypeInfo} {zv : Value} {base : Option Addr} {sLen sCap n : Nat} {x : Value} {old news : List (AV G)} {olds vals : List Value}
    (ht : P.underlying t = some (.slice el)) (hi : P.info? el = some i) (hz : i.zero = some zv) (hzc : zv.cells.size = i.size) (hS : Src P i.size tx x n vals w)
    (hold : (Builtin.firstCells i.size sLen (.slice base sLen sCap)).run P w.drew = .ok olds.toArray w.drew) (ho : VRs e old olds) (hol : old.length = sLen * i.size) (hn : VRs e news vals) (hg : sCap < sLen + n) (hf : fitsA (sLen + n) i.bytes = true) :
    ∃ c : Array Value, (Builtin.append_ #[t, tx] ty #[.slice base sLen sCap, x]).run P w = .ok (.slice (some ⟨w.heap.size, 0, none⟩) (sLen + n) (grownCap w (sLen + n) sCap el)) (w.drew.alloc (.cells c el)) ∧
      (∀ (j : Nat) (b : (AV G)), (old ++ news)[j]? = some b → ∃ v, c[j]? = some v ∧ VR e b v) ∧ grownCap w (sLen + n) sCap el * i.size ≤ c.size ∧ sLen + n ≤ grownCap w (sLen + n) sCap el := by
  obtain ⟨f1, f2⟩ := fits_sound hf hg
  have hge := grownCap_ge w (sLen + n) sCap el
  refine ⟨_, run_append_grow_src w t tx ty el i zv ht hi hz base sLen sCap olds hold x n vals hS hg f2 f1, fun j b hj => ?_, ?_, hge⟩
  · obtain ⟨v, k1, k2⟩ := (ho.append hn).get hj
    refine ⟨v, ?_, k2⟩
    have hlt : j < (olds ++ vals).length := (List.getElem?_eq_some_iff.1 k1).1
    rw [Array.getElem?_append_left (by simpa using hlt)]
    simpa using k1
  · have e1 := ho.length
    have e2 := hS.newsLen
    simp only [Array.size_append, List.size_toArray, List.length_append, size_zeroCells, hzc, e1, e2, hol]
    obtain ⟨k, hk⟩ := Nat.exists_eq_add_of_le hge
    rw [hk, Nat.add_sub_cancel_left, Nat.add_mul, Nat.add_mul]
    omega

theorem appendA_sound (H : HR e h w) {argTypes : Array TypeId} {ty : TypeId} {as : List (AV G)} {xs : List Value} {v : (AV G)} {h' : (AH G)} (hs : appendA P h argTypes.toList as = some (v, h')) (hx : VRs e as xs) :
    ∃ e' w' v', (Builtin.append_ argTypes ty xs.toArray).run P w = .ok v' w' ∧ VR e' v v' ∧ St e h w e' h' w' := by
  unfold appendA at hs
  split at hs
  · rename_i t tx s x hat
    have hat' : argTypes = #[t, tx] := by apply Array.ext'; simpa using hat
    subst hat'
    simp only [VRs] at hx
    obtain ⟨sv, _, rfl, hsv, xv, _, rfl, hxv, rfl⟩ := hx
    split at hs
    · rename_i el ht
      split at hs
      · rename_i i hi
        split at hs
        · rename_i z n news hz hnews
          obtain ⟨i', zv, hi', hzv, hzr⟩ := zeroOf_sound (e := e) hz
          rw [hi] at hi'; cases hi'
          split at hs
          · rename_i hone
            obtain ⟨hone, hzl⟩ := hone
            have hzc : zv.cells.size = i.size := by have := (VR_parts hzr).length; simp at this; omega
            obtain ⟨vals, hvals, hS⟩ := newsOf_sound H hnews hxv hone
            have hnl : news.length = n * i.size := by rw [← hvals.length, hS.newsLen]
            split at hs
            · -- nil
              have h0 := hsv; simp only [VR] at h0; subst h0
              split at hs
              · rename_i hn0
                subst hn0
                cases hs
                refine ⟨e, w, .slice none 0 0, ?_, by simp [VR], St.refl H⟩
                rcases hS.kind with ⟨e', hk⟩ | hk <;> simp [Builtin.append_, run_underlying ht, run_underlying hk, sizeOf, typeInfo, hi, hS.len, hS.cells]
              · rename_i hn0
                split at hs
                · rename_i hfit
                  cases hs
                  obtain ⟨c, g1, g2, g3, g4⟩ := grown_sound (ty := ty) (base := none) (sLen := 0) (sCap := 0) (old := []) (olds := []) ht hi hzv hzc hS (by simpa using run_firstCells_none w.drew i.size 0 0 0) (by simp [VRs]) (by simp) hvals (by omega) (by simpa using hfit)
                  have hst := St.allocC (St.drew H).hr news c el (by simpa using g2)
                  refine ⟨_, _, _, g1, ?_, (St.drew H).trans hst⟩
                  simp only [VR]
                  refine ⟨_, _, _, Env.bind_same _ _ _ _, by simp; rfl, by simpa using g4, by simp, fun _ _ => ?_⟩
                  rw [Env.bind_room]; simpa using g3
                · cases hs
            · -- an exact capacity
              rename_i id off len cap
              obtain ⟨b, o, c, hφ, rfl, hlc, hg0, hg1⟩ := hsv.slice
              have hcc := hg0 rfl
              subst hcc
              split at hs
              · rename_i hn0
                subst hn0
                cases hs
                have hv0 : vals = [] := by
                  have := hS.newsLen; simp at this; exact this
                subst hv0
                refine ⟨e, w, _, ?_, hsv, St.refl H⟩
                have := run_append_room_src (P := P) w t tx ty el i ht hi b (o + off) len c xv 0 [] hS (by omega) (fun j hj => by simp at hj) (fun j hj => by simp at hj)
                simpa [World.setCells] using this
              · split at hs
                · rename_i hn0 hroom
                  split at hs
                  · rename_i h1 hw
                    cases hs
                    obtain ⟨hst, hc1, hc2, rfl⟩ := St.write H hw hvals hφ
                    refine ⟨e, _, _, run_append_room_src (P := P) w t tx ty el i ht hi b (0 + off) len c xv n vals hS hroom (by simpa using hc1) (by simpa using hc2), ?_, by simpa using hst⟩
                    simp only [VR]
                    exact ⟨b, 0, c, hφ, rfl, hroom, fun _ => rfl, by simp⟩
                  · cases hs
                · rename_i hn0 hroom
                  split at hs
                  · rename_i old hold
                    split at hs
                    · rename_i hfit
                      cases hs
                      obtain ⟨hol, olds, ho1, ho2⟩ := read_sound H hold hφ
                      have hfc : (Builtin.firstCells i.size len (.slice (some ⟨b, o + off, none⟩) len c)).run P w.drew = .ok olds.toArray w.drew :=
                        run_firstCells_some w.drew i.size len ⟨b, o + off, none⟩ len c olds (by rw [ho1.length, hol]) (fun j u hj => by rw [addr_add]; exact ho2 j u hj)
                      obtain ⟨cc, g1, g2, g3, g4⟩ := grown_sound (ty := ty) (base := some ⟨b, o + off, none⟩) (sLen := len) (sCap := c) ht hi hzv hzc hS hfc ho1 hol hvals (by omega) hfit
                      have hst := St.allocC (St.drew H).hr (old ++ news) cc el g2
                      refine ⟨_, _, _, g1, ?_, (St.drew H).trans hst⟩
                      simp only [VR]
                      refine ⟨_, _, _, Env.bind_same _ _ _ _, by simp, g4, by simp, fun _ _ => ?_⟩
                      rw [Env.bind_room]; exact g3
                    · cases hs
                  · cases hs
            · -- a capacity that grew
              rename_i id off len cap
              obtain ⟨b, o, c, hφ, rfl, hlc, hg0, hg1⟩ := hsv.slice
              split at hs
              · rename_i hn0
                subst hn0
                cases hs
                have hv0 : vals = [] := by
                  have := hS.newsLen; simp at this; exact this
                subst hv0
                refine ⟨e, w, _, ?_, hsv, St.refl H⟩
                have := run_append_room_src (P := P) w t tx ty el i ht hi b (o + off) len c xv 0 [] hS (by omega) (fun j hj => by simp at hj) (fun j hj => by simp at hj)
                simpa [World.setCells] using this
              · rename_i hn0
                split at hs
                · rename_i hcond
                  obtain ⟨rfl, rfl, hfit⟩ := hcond
                  split at hs
                  · rename_i vs g hid
                    split at hs
                    · rename_i hvl
                      split at hs
                      · rename_i h1 hpush
                        cases hs
                        obtain ⟨b', hφ', hbase, carr, ct, hc, hrm, hcv⟩ := H.obj _ _ hid
                        rw [hφ] at hφ'
                        obtain ⟨rfl, rfl⟩ : b = b' ∧ o = 0 := by simpa using hφ'
                        have hcap := hg1 rfl rfl
                        by_cases hroom : len + n ≤ c
                        · have hcells : ∀ j, j < vals.length → len * i.size + j < carr.size := by
                            intro j hj
                            have e1 := hS.newsLen
                            have e2 : (len + n) * i.size ≤ c * i.size := Nat.mul_le_mul_right _ hroom
                            rw [Nat.add_mul] at e2
                            omega
                          have hst := St.pushIn H hid hpush hvals hφ (fun j hj => by
                            rw [cell_of_row w b _ carr ct (0, 0) hc]
                            have := hcells j hj
                            simp; omega)
                          refine ⟨_, _, _, run_append_room_src (P := P) w t tx ty el i ht hi b (0 + 0) len c xv n vals hS hroom (fun j hj => by
                            rw [cell_of_row w b _ carr ct (0, 0) hc]
                            have := hcells j hj
                            simp; omega) (fun j hj => frozen_of_row w b _ carr ct hc), ?_, by rw [hvl] at hst; simpa using hst⟩
                          simp only [VR]
                          refine ⟨b, 0, c, Env.bind_same _ _ _ _, rfl, hroom, by simp, fun _ _ => ?_⟩
                          rw [Env.bind_room]; exact hcap
                        · have hread : h.read id 0 (len * i.size) = some vs := by
                            unfold AH.read
                            rw [hid]
                            simp only [sub]
                            rw [if_pos (by omega)]
                            simp [← hvl]
                          obtain ⟨hol, olds, ho1, ho2⟩ := read_sound H hread hφ
                          have hfc : (Builtin.firstCells i.size len (.slice (some ⟨b, 0 + 0, none⟩) len c)).run P w.drew = .ok olds.toArray w.drew :=
                            run_firstCells_some w.drew i.size len ⟨b, 0 + 0, none⟩ len c olds (by rw [ho1.length, hol]) (fun j u hj => by rw [addr_add]; exact ho2 j u hj)
                          obtain ⟨cc, g1, g2, g3, g4⟩ := grown_sound (ty := ty) (base := some ⟨b, 0 + 0, none⟩) (sLen := len) (sCap := c) ht hi hzv hzc hS hfc ho1 hol hvals (by omega) hfit
                          have hst := St.pushNew (St.drew H).hr cc el hid hpush g2
                          refine ⟨_, _, _, g1, ?_, (St.drew H).trans hst⟩
                          simp only [VR]
                          refine ⟨_, _, _, Env.bind_same _ _ _ _, by simp, g4, by simp, fun _ _ => ?_⟩
                          rw [Env.bind_room]; exact g3
                      · cases hs
                    · cases hs
                  · cases hs
                · cases hs
            · cases hs
          · cases hs
        · cases hs
      · cases hs
    · cases hs
  · cases hs
end
end Go.Ev
end

noncomputable section
namespace Go.Ev
variable {G : Ctx}
section
variable {P : Program} {e : (Env G)} {a : Act} {tm : (TT G)} {h : (AH G)} {w : World}

theorem range0 : Array.range 0 = #[] := rfl

theorem copyA_sound (H : HR e h w) {argTypes : Array TypeId} {ty : TypeId} {as : List (AV G)} {xs : List Value} {v : (AV G)} {h' : (AH G)} (hs : copyA P h argTypes.toList as = some (v, h')) (hx : VRs e as xs) :
    ∃ w' v', (Builtin.copy_ argTypes ty xs.toArray).run P w = .ok v' w' ∧ VR e v v' ∧ St e h w e h' w' := by
  unfold copyA at hs
  split at hs
  · rename_i t tx id off len cap g x hat
    have hat' : argTypes = #[t, tx] := by apply Array.ext'; simpa using hat
    subst hat'
    simp only [VRs] at hx
    obtain ⟨sv, _, rfl, hsv, xv, _, rfl, hxv, rfl⟩ := hx
    split at hs
    · rename_i el ht
      split at hs
      · rename_i sz hsz
        split at hs
        · rename_i el2 id2 off2 n2 cap2 g2 hu2
          split at hs
          · rename_i cs hcs
            split at hs
            · rename_i hone
              split at hs
              · rename_i h1 hw
                cases hs
                obtain ⟨b, o, c, hφ, rfl, hlc, hg0, hg1⟩ := hsv.slice
                obtain ⟨b2, o2, c2, hφ2, rfl, _⟩ := hxv.slice
                obtain ⟨hol, vals, ho1, ho2⟩ := read_sound H hcs hφ2
                obtain ⟨k1, k2⟩ := store_sound (P := P) H hw ho1 hone hφ
                refine ⟨_, .int .i64 (Nat.min n2 len), ?_, by simp [VR], k2⟩
                have hl := run_loadCells_list (P := P) w ⟨b2, o2 + off2, none⟩ vals (fun j u hj => by rw [addr_add]; exact ho2 j u hj)
                rw [ho1.length, hol] at hl
                simp [Builtin.copy_, run_underlying ht, Builtin.lenOf, Builtin.firstCells, run_sizeOf hsz, hl, k1, goInt]
              · cases hs
            · cases hs
          · cases hs
        · cases hs
      · cases hs
    · cases hs
  · cases hs

theorem run_storeVar_sound (H : HR e h w) {t : TypeId} {id off n b x : Nat} {p : (AV G)} {pv : Value} {h' : (AH G)} (hn : szOf P t = some n) (hp : VR e p pv) (hl : p.parts.length = n) (h1 : oneAll p.parts = true) (hw : h.write id off p.parts = some h')
    (hφ : e.φ id = some (b, x)) : ∃ w', (Instr.storeAt t (.pointer (some ⟨b, x + off, none⟩)) pv).run P w = .ok () w' ∧ St e h w e h' w' := by
  have hv := VR_parts hp
  obtain ⟨k1, k2⟩ := store_sound (P := P) H hw hv h1 hφ
  refine ⟨_, ?_, k2⟩
  have hsz : pv.cells.size = n := by have := hv.length; simp at this; omega
  simp [Instr.storeAt, Instr.sureAddr, storeVar, run_sizeOf hn, hsz, k1]

theorem stepOp_sound (H : HR e h w) (ht : TRs e tm a.tmps) {o : Oper} {v : (AV G)} {h' : (AH G)} (hs : stepOp P tm h o.op = some (v, h')) : Does P e h w a o v h' := by
  unfold stepOp at hs
  split at hs
  · rename_i el ho
    split at hs
    · rename_i z hz
      cases hs
      obtain ⟨i, zv, hi, hzv, hzr⟩ := zeroOf_sound (e := e) hz
      have hst := St.allocC H z.parts zv.cells el (get_of_VRs (VR_parts hzr))
      refine ⟨_, _, _, .pointer (some ⟨w.heap.size, 0, none⟩), ?_, .inl rfl, ?_, hst⟩
      · simp [execOp, ho, Instr.alloc, run_zeroValue hi hzv, newVar, newRow]
      · simp only [VR]; exact ⟨_, _, Env.bind_same _ _ _ _, rfl⟩
    · cases hs
  · rename_i el x ho
    split at hs
    · rename_i p hp
      cases hs
      have hv := rho_sound ht hp
      have hst := St.allocC H p.parts (a.eval x).cells el (get_of_VRs (VR_parts hv))
      refine ⟨_, _, _, .pointer (some ⟨w.heap.size, 0, none⟩), ?_, .inl rfl, ?_, hst⟩
      · simp [execOp, ho, Instr.box, newVar, newRow]
      · simp only [VR]; exact ⟨_, _, Env.bind_same _ _ _ _, rfl⟩
    · cases hs
  · rename_i t x y ho
    split at hs
    · rename_i id off p n hx hy hn
      split at hs
      · rename_i hc
        split at hs
        · rename_i h1 hw
          cases hs
          obtain ⟨b, o', hφ, hpx⟩ := (rho_sound ht hx).ptr
          obtain ⟨w', k1, k2⟩ := run_storeVar_sound (P := P) H hn (rho_sound ht hy) hc.1 hc.2 hw hφ
          refine ⟨e, w', _, undef, ?_, .inr ⟨rfl, rfl⟩, VR_undef, k2⟩
          simp [execOp, ho, hpx, k1]
        · cases hs
      · cases hs
    · cases hs
  · rename_i t len parts ho
    split at hs
    · rename_i el ps hu hps
      split at hs
      · rename_i n z hn hz
        split at hs
        · rename_i hc
          obtain ⟨hc1, hc2, hc3⟩ := hc
          split at hs
          · rename_i cs hfill
            cases hs
            obtain ⟨i, zv, hi, hzv, hzr⟩ := zeroOf_sound (e := e) hz
            have hin : i.size = n := by unfold szOf at hn; rw [hi] at hn; simpa using hn
            have hzp := VR_parts hzr
            obtain ⟨ys, k1, k2⟩ := fillA_sound (rhoParts_sound ht hps) (reptA_sound hzp len n hc3.symm) hfill
            have hst := St.allocC H cs ys el (get_of_VRs k2)
            refine ⟨_, _, _, .slice (some ⟨w.heap.size, 0, none⟩) len len, ?_, .inl rfl, ?_, hst⟩
            · have k1' : Instr.fill (fun j => some (j * n, n)) ((Array.range (len * n)).map fun j => zv.cells[j % zv.cells.size]!) (parts.toList.map fun p => (p.1, a.eval p.2)) = some ys := k1
              have hnot : ¬ 16777216 < len * n := by omega
              by_cases hz0 : len * n = 0
              · have hl0 : len = 0 := by rcases Nat.mul_eq_zero.1 hz0 with h | h <;> omega
                subst hl0
                simp [range0] at k1'
                simp [execOp, ho, Instr.buildSlice, run_underlying hu, run_sizeOf hn, k1', newRow, range0]
              · simp [execOp, ho, Instr.buildSlice, run_underlying hu, run_sizeOf hn, hnot, hz0, run_zeroValue hi hzv, k1', newRow]
            · simp only [VR]
              exact ⟨_, _, len, Env.bind_same _ _ _ _, rfl, Nat.le_refl _, fun _ => rfl, by simp⟩
          · cases hs
        · cases hs
      · cases hs
    · cases hs
  · rename_i t l c ho
    split at hs
    · rename_i el k1 li k2 ci hu hl hc
      split at hs
      · rename_i i z hi hz
        split at hs
        · rename_i hcond
          obtain ⟨hl0, hlc, hcm, hbm, hsz0, hzl⟩ := hcond
          cases hs
          obtain ⟨i', zv, hi', hzv, hzr⟩ := zeroOf_sound (e := e) hz
          rw [hi] at hi'; cases hi'
          have hzp := VR_parts hzr
          have e1 := (rho_sound ht hl).int
          have e2 := (rho_sound ht hc).int
          have hst := St.allocC H (reptA z.parts ci.toNat) ((Array.range (ci.toNat * i.size)).map fun j => zv.cells[j % zv.cells.size]!) el (get_of_VRs (reptA_sound hzp ci.toNat i.size hzl.symm))
          refine ⟨_, _, _, .slice (some ⟨w.heap.size, 0, none⟩) li.toNat ci.toNat, ?_, .inl rfl, ?_, hst⟩
          · have w1 : IntKind.i64.wrap li = li := by rw [← fwrap_eq, fwrap_i64]; rw [if_pos ⟨by omega, by omega⟩]
            have w2 : IntKind.i64.wrap ci = ci := by rw [← fwrap_eq, fwrap_i64]; rw [if_pos ⟨by omega, by omega⟩]
            have n1 : ¬ ci < 0 := by omega
            have n2 : ¬ li < 0 := by omega
            have n3 : ¬ ci < li := by omega
            have n4 : ¬ (281474976710656 < (i.bytes : Int) * ci) := by
              have : (i.bytes : Int) * ci ≤ 1000000 * 1000000 := Int.mul_le_mul (by omega) hcm (by omega) (by omega)
              omega
            by_cases hz0 : ci.toNat * i.size = 0
            · simp [execOp, ho, Instr.makeSlice, run_underlying hu, e1, e2, asInt, asIntOf, typeInfo, hi, w1, w2, n1, n2, n3, n4, sizeOf, hz0, newRow, range0]
            · simp [execOp, ho, Instr.makeSlice, run_underlying hu, e1, e2, asInt, asIntOf, typeInfo, hi, w1, w2, n1, n2, n3, n4, sizeOf, hz0, run_zeroValue hi hzv, newRow]
          · simp only [VR]
            exact ⟨_, _, ci.toNat, Env.bind_same _ _ _ _, rfl, by omega, fun _ => rfl, by simp⟩
        · cases hs
      · cases hs
    · cases hs
  · rename_i t ho
    cases hs
    have hst := St.allocO H (.map []) (.map #[] 0) (by simp) ⟨w.heap.size, 0, Env.bind_same _ _ _ _, H.base, #[], 0, heap_alloc_new w _, by simp [EntsR]⟩
    refine ⟨_, _, _, .map (some w.heap.size), ?_, .inl rfl, ?_, hst⟩
    · simp [execOp, ho, Instr.makeMap]
    · simp only [VR]; exact ⟨_, _, Env.bind_same _ _ _ _, rfl⟩
  · rename_i t m k y ho
    split at hs
    · rename_i kt et id kk vv hu hm hk hv
      split at hs
      · rename_i hck
        split at hs
        · rename_i es hes
          split at hs
          · rename_i hf
            cases hs
            obtain ⟨w', k1, k2⟩ := mapUpdate_sound (P := P) H hu (rho_sound ht hm) (rho_sound ht hk) (rho_sound ht hv) hck hes hf
            refine ⟨e, w', _, undef, ?_, .inr ⟨rfl, rfl⟩, VR_undef, k2⟩
            simp [execOp, ho, k1]
          · cases hs
        · cases hs
      · cases hs
    · cases hs
  · rename_i t m k y ho
    split at hs
    · rename_i kt et id kk vv hu hm hk hv
      split at hs
      · rename_i hck
        split at hs
        · rename_i es hes
          split at hs
          · rename_i hf
            cases hs
            obtain ⟨w', k1, k2⟩ := mapUpdate_sound (P := P) H hu (rho_sound ht hm) (rho_sound ht hk) (rho_sound ht hv) hck hes hf
            refine ⟨e, w', _, undef, ?_, .inr ⟨rfl, rfl⟩, VR_undef, k2⟩
            simp [execOp, ho, k1]
          · cases hs
        · cases hs
      · cases hs
    · cases hs
  · rename_i c ho
    have hargs : (c.args.toList.map a.eval).toArray = c.args.map a.eval := by apply Array.ext'; simp
    split at hs
    · rename_i hb
      split at hs
      · rename_i as has
        obtain ⟨e', w', v', k1, k2, k3⟩ := appendA_sound (P := P) (ty := o.type) H hs (rhos_sound ht has)
        rw [hargs] at k1
        refine ⟨e', w', _, v', ?_, .inl rfl, k2, k3⟩
        simp only [execOp, ho, resolve, hb, Sem.run_bind, Sem.run_pure, Result.andThen_ok, invoke, builtin, k1]
      · cases hs
    · rename_i hb
      split at hs
      · rename_i as has
        obtain ⟨w', v', k1, k2, k3⟩ := copyA_sound (P := P) (ty := o.type) H hs (rhos_sound ht has)
        rw [hargs] at k1
        refine ⟨e, w', _, v', ?_, .inl rfl, k2, k3⟩
        simp only [execOp, ho, resolve, hb, Sem.run_bind, Sem.run_pure, Result.andThen_ok, invoke, builtin, k1]
      · cases hs
    · cases hs
  · cases hs
end
end Go.Ev
end

noncomputable section
namespace Go.Ev
variable {G : Ctx}

/-- How functions are found, with their bodies. -/
abbrev Look := FuncId → Option (Func × Code)

def LookOK (P : Program) (L : Look) : Prop := ∀ f fn c, L f = some (fn, c) → P.funcs[f]? = some fn ∧ fn.body = some c ∧ (fn.name == "runtime.NumGoroutine") = false

/-- A deferred call's place in an activation: the mark of a range over a function alone. -/
inductive ADf (G : Ctx) where
  | mark (id : Nat)
  | fn (f : FuncId) (cap args : List (AV G))

structure AAct (G : Ctx) where
  tmps : (TT G)
  defers : List (ADf G)

/-- Values that no memory stands behind. -/
def cl1 : AV G → Option Value
  | .bool b => some (.bool b)
  | .int k n => some (.int k n)
  | .str s => some (.string s)
  | _ => none

def cls : List (AV G) → Option (List Value)
  | [] => some []
  | a :: r => match cl1 a, cls r with
    | some v, some l => some (v :: l)
    | _, _ => none

def clV : AV G → Option Value
  | .agg cs => (cls cs).map fun l => .agg l.toArray
  | a => cl1 a

/-- What is thrown. -/
def panV : AV G → Option Value
  | .iface t x => (clV x).map (.iface t)
  | _ => none

/-- What is caught. -/
def unV : Value → Option (AV G)
  | .iface t (.agg cs) => (ofVl cs.toList).map fun l => .iface t (.agg l)
  | .iface t v => (ofV1 v).map (.iface t)
  | _ => none

def putA (a : (AAct G)) (dst : Option Nat) (v : (AV G)) : (AAct G) :=
  match dst with
  | some d => { a with tmps := setT a.tmps d v }
  | none => a

/-- Is the operation carried out? -/
def wantA (ops : Array Oper) (tm : (TT G)) (o : Oper) : Option Bool :=
  match o.guard with
  | none => some true
  | some (j, want) =>
    match (ops[j]?).bind (·.dst) with
    | some t => match getT tm t with
      | .bool b => some (b == want)
      | .tuple _ => some false
      | _ => none
    | none => some false

inductive OpRes (G : Ctx) where
  | val (v : (AV G)) (h : (AH G))
  | call (f : FuncId) (args : List (AV G))
  | round (id : Nat) (args : List (AV G))
  | dfr (d : ADf G)
  | pan (v : Value)

/-- The function to which a call leads, if it does, is there. -/
def aboutA (L : Look) (tm : (TT G)) (o : Op) : Bool :=
  match o with
  | .call c => match c.callee with
    | .builtin _ => true
    | .value x => match rho tm x with
      | some (.func (.func f) _ _) => (L f).isSome
      | some (.func _ _ _) | some (.opq _) | none => false
      | some _ => true
    | _ => false
  | _ => true

def deferArm (L : Look) (tm : (TT G)) (c : Call) : Option (OpRes G) :=
  match c.callee with
  | .value x =>
    match rho tm x, rhos tm c.args.toList with
    | some (.func (.func f) first cap), some args =>
      match L f with
      | some _ => some (.dfr (.fn f cap (first ++ args)))
      | none => none
    | _, _ => none
  | _ => none

def panicArm (tm : (TT G)) (x : Operand) : Option (OpRes G) :=
  match rho tm x with
  | some a => (panV a).map .pan
  | none => none

def callArm (P : Program) (L : Look) (tm : (TT G)) (h : (AH G)) (o : Op) (c : Call) : Option (OpRes G) :=
  match c.callee with
  | .builtin .append | .builtin .copy => (stepOp P tm h o).map fun (v, h') => .val v h'
  | .builtin _ => (pureOp P tm o).map fun v => .val v h
  | .value x =>
    match rho tm x, rhos tm c.args.toList with
    | some (.func (.func f) first cap), some args =>
      match L f with
      | some _ => some (.call f (first ++ args ++ cap))
      | none => none
    | some (.yield id), some args => some (.round id args)
    | _, _ => none
  | _ => none

def opA (P : Program) (L : Look) (tm : (TT G)) (h : (AH G)) (o : Op) : Option (OpRes G) :=
  match o with
  | .load _ _ | .lookup _ _ _ _ => (readOp P tm h o).map fun v => .val v h
  | .alloc _ | .box _ _ | .store _ _ _ | .buildSlice _ _ _ | .makeSlice _ _ _ | .makeMap _ _ | .mapUpdate _ _ _ _ | .insert _ _ _ _ => (stepOp P tm h o).map fun (v, h') => .val v h'
  | .call c => callArm P L tm h o c
  | .defer c => deferArm L tm c
  | .panic x => panicArm tm x
  | _ => (pureOp P tm o).map fun v => .val v h

inductive Job (G : Ctx) where
  | code (rd : Option Nat) (c : Code) (a : (AAct G)) (h : (AH G))
  | ops (rd : Option Nat) (ops : Array Oper) (l : List Nat) (a : (AAct G)) (h : (AH G))
  | call (f : FuncId) (args : List (AV G)) (h : (AH G))
  | round (id : Nat) (args : List (AV G)) (h : (AH G))

inductive Res (G : Ctx) where
  | at_ (x : Exit) (a : (AAct G)) (h : (AH G))
  | ret (v : (AV G)) (h : (AH G))
  | pan (chain : List PanicEntry) (h : (AH G))

def loopA (self : (Job G) → Option (Res G)) (rd : Option Nat) (c : Code) : Nat → (AAct G) → (AH G) → Option (Res G)
  | 0, _, _ => none
  | m + 1, a, h =>
    match self (.code rd c a h) with
    | some (.at_ .normal a h) => loopA self rd c m a h
    | r => r

def loopMost : Nat := 1000000

def resA (P : Program) (tm : (TT G)) (h : (AH G)) : ResultVar → Option (AV G)
  | .tmp t => some (getT tm t)
  | .cell p t =>
    match getT tm p, rowOf P t with
    | .ptr id off, some (some n) => (h.read id off n).map .agg
    | .ptr id off, some none => h.read1 id off
    | _, _ => none

def ressA (P : Program) (tm : (TT G)) (h : (AH G)) : List ResultVar → Option (List (AV G))
  | [] => some []
  | r :: l => match resA P tm h r, ressA P tm h l with
    | some v, some vs => some (v :: vs)
    | _, _ => none

def tupA : List (AV G) → (AV G)
  | [v] => v
  | vs => .tuple vs

def isRet : Exit → Bool
  | .normal | .ret => true
  | _ => false

def isRecover : Op → Bool
  | .call c => match c.callee with
    | .builtin .recover => match c.args.size with
      | 0 => true
      | _ => false
    | _ => false
  | _ => false

/-- What recover hands back, and the mode of the frame below then. -/
def recA : FrameMode → Option ((AV G) × FrameMode)
  | .panicking (p :: older) => match p.recovered, p.goexit with
    | false, false => match (unV p.v : Option (AV G)) with
      | some a => some (a, .panicking ({ v := p.v, recovered := true } :: older))
      | none => none
    | _, _ => none
  | .returning => some (.nili, .returning)
  | _ => none

def opsS (P : Program) (L : Look) (ops : Array Oper) : List Nat → AAct G → FrameMode → AH G → Option (AAct G × FrameMode × AH G)
  | [], a, u, h => some (a, u, h)
  | i :: rest, a, u, h =>
    match ops[i]? with
    | none => opsS P L ops rest a u h
    | some o => match aboutA L a.tmps o.op with
      | false => none
      | true => match wantA ops a.tmps o with
        | some false => opsS P L ops rest (putA a o.dst undefA) u h
        | some true => match isRecover o.op with
          | true => match (recA u : Option (AV G × FrameMode)) with
            | some (v, u') => opsS P L ops rest (putA a o.dst v) u' h
            | none => none
          | false => match opA P L a.tmps h o.op with
            | some (.val v h') => opsS P L ops rest (putA a o.dst v) u h'
            | _ => none
        | none => none

def hasRec : List Oper → Bool
  | [] => false
  | o :: r => isRecover o.op || hasRec r

def codeS (P : Program) (L : Look) (self : Job G → Option (Res G)) : Code → AAct G → FrameMode → AH G → Option (Exit × AAct G × FrameMode × AH G)
  | .region id ops false, a, u, h => match hasRec ops.toList with
    | true => match opsS P L ops (List.range ops.size) a u h with
      | some (a', u', h') => some (.normal, a', u', h')
      | none => none
    | false => match self (.code none (.region id ops false) a h) with
      | some (.at_ x a' h') => some (x, a', u, h')
      | _ => none
  | .seq x y, a, u, h => match codeS P L self x a u h with
    | some (.normal, a', u', h') => codeS P L self y a' u' h'
    | r => r
  | .cond c x y, a, u, h => match rho a.tmps c with
    | some (.bool true) => codeS P L self x a u h
    | some (.bool false) => codeS P L self y a u h
    | _ => none
  | c, a, u, h => match self (.code none c a h) with
    | some (.at_ x a' h') => some (x, a', u, h')
    | _ => none

/-- A deferred call, in a frame of some mode. -/
def dcallA (P : Program) (L : Look) (self : Job G → Option (Res G)) (f : FuncId) (args : List (AV G)) (u : FrameMode) (h : AH G) : Option (FrameMode × AH G) :=
  match L f with
  | some (fn, c) => match codeS P L self c { tmps := ofT args fn.ntmps, defers := [] } u h with
    | some (x, a', u', h') => match isRet x, a'.defers, ressA P a'.tmps h' fn.results.toList with
      | true, [], some _ => some (u', h')
      | _, _, _ => none
    | none => none
  | none => none

/-- What an activation leaves behind is done. -/
def leaveA (P : Program) (L : Look) (self : Job G → Option (Res G)) : List (ADf G) → FrameMode → (AH G) → Option (FrameMode × (AH G))
  | [], u, h => some (u, h)
  | .mark id :: r, u, h =>
    match h.objs.get id with
    | some (.defd (some [])) => leaveA P L self r u (h.putO id (.defd none))
    | _ => none
  | .fn f cap args :: r, u, h =>
    match dcallA P L self f (args ++ cap) u h with
    | some (u', h') => match settle u' with
      | .run => none
      | u'' => leaveA P L self r u'' h'
    | none => none

/-- How a body was left. -/
def modeOf : Exit → Option FrameMode
  | .normal | .ret => some .returning
  | .panic chain => some (.panicking chain)
  | _ => none

def outA (P : Program) (fn : Func) (tm : (TT G)) : Option (FrameMode × (AH G)) → Option (Res G)
  | some (.returning, h) => match ressA P tm h fn.results.toList with
    | some vs => some (.ret (tupA vs) h)
    | none => none
  | some (.panicking chain, h) => some (.pan chain h)
  | _ => none

def getLoop (h : (AH G)) (id : Nat) : Option (ALoop G) :=
  match h.objs.get id with
  | some (.loop l) => some l
  | _ => none

def foldSet (tm : (TT G)) : List Nat → List (AV G) → (TT G)
  | t :: ts, v :: vs => foldSet (setT tm t v) ts vs
  | _, _ => tm

/-- How a round's body was left: the pending jump. -/
def jumpOf : Exit → Option (Option Code)
  | .normal => some none
  | .ret => some (some .ret)
  | .exit id => some (some (.exit id))
  | .goto t => some (some (.goto t))
  | _ => none

def stepJ (P : Program) (L : Look) (rp : Bool) (draw : ((Job G) → Option (Res G)) → Option Nat → Array Oper → (AAct G) → (AH G) → Option (Res G)) (self : (Job G) → Option (Res G)) : (Job G) → Option (Res G)
  | .code rd c a h =>
    match c with
    | .skip | .label _ => some (.at_ .normal a h)
    | .region _ ops false => self (.ops rd ops (List.range ops.size) a h)
    | .region _ ops true => draw self rd ops a h
    | .seq x y =>
      match self (.code rd x a h) with
      | some (.at_ .normal a h) => self (.code rd y a h)
      | r => r
    | .cond c x y =>
      match rho a.tmps c with
      | some (.bool true) => self (.code rd x a h)
      | some (.bool false) => self (.code rd y a h)
      | _ => none
    | .block id x =>
      match self (.code rd x a h) with
      | some (.at_ (.exit id') a h) => some (.at_ (if id' = id then .normal else .exit id') a h)
      | r => r
    | .loop x => loopA self rd x loopMost a h
    | .scope x =>
      match self (.code rd x a h) with
      | some (.at_ (.goto _) _ _) => none
      | r => r
    | .exit id => some (.at_ (.exit id) a h)
    | .goto l => some (.at_ (.goto l) a h)
    | .ret => some (.at_ .ret a h)
    | .rangeFunc g ps assign body =>
      match rho a.tmps g with
      | some (.func (.func f) first cap) =>
        match L f with
        | some _ =>
            let go (h : (AH G)) (df : Nat) (mark : List (ADf G)) : Option (Res G) :=
              match self (.call f (first ++ [.yield h.next] ++ cap) (h.allocO (.loop { state := .ready, pending := none, tmps := a.tmps, params := ps, assign, body, defers := df }))) with
              | some (.ret _ h2) =>
                match getLoop h2 h.next with
                | some l =>
                  if l.state == .busy then none else
                  let h3 := h2.putO h.next (.loop { l with state := .exhausted })
                  let a2 := { a with defers := mark ++ a.defers }
                  match l.pending with
                  | none => some (.at_ .normal a2 h3)
                  | some c => self (.code rd c a2 h3)
                | none => none
              | some (.pan chain h2) => some (.at_ (.panic chain) { a with defers := mark ++ a.defers } h2)
              | _ => none
            match rd with
            | none => go (h.allocO (.defd (some []))) h.next [.mark h.next]
            | some l => match getLoop h l with
              | some r => go h r.defers []
              | none => none
        | none => none
      | _ => none
    | _ => none
  | .ops rd ops l a h =>
    match l with
    | [] => some (.at_ .normal a h)
    | i :: rest =>
      match ops[i]? with
      | none => self (.ops rd ops rest a h)
      | some o =>
        match aboutA L a.tmps o.op with
        | false => none
        | true =>
        match wantA ops a.tmps o with
        | some true =>
          match opA P L a.tmps h o.op with
          | some (.val v h) => self (.ops rd ops rest (putA a o.dst v) h)
          | some (.call f args) =>
            match self (.call f args h) with
            | some (.ret v h) => self (.ops rd ops rest (putA a o.dst v) h)
            | some (.pan chain h) => some (.at_ (.panic chain) a h)
            | _ => none
          | some (.round id args) =>
            match self (.round id args h) with
            | some (.ret v h) => self (.ops rd ops rest (putA a o.dst v) h)
            | some (.pan chain h) => some (.at_ (.panic chain) a h)
            | _ => none
          | some (.dfr d) => match rd with
            | none => self (.ops rd ops rest (putA { a with defers := d :: a.defers } o.dst undefA) h)
            | some _ => none
          | some (.pan v) => some (.at_ (.panic [{ v, recovered := false }]) a h)
          | none => none
        | some false => self (.ops rd ops rest (putA a o.dst undefA) h)
        | none => none
  | .call f args h =>
    match L f with
    | some (fn, c) =>
        match self (.code none c { tmps := ofT args fn.ntmps, defers := [] } h) with
        | some (.at_ x a h) =>
          match modeOf x with
          | some u => outA P fn a.tmps (leaveA P L self a.defers u h)
          | none => none
        | _ => none
    | none => none
  | .round id args h =>
    match getLoop h id with
    | some l =>
      if args.length = l.params.size then
        match self (.code (some id) l.assign { tmps := foldSet l.tmps l.params.toList args, defers := [] } h) with
        | some (.at_ .normal a1 h1) =>
          match getLoop h1 id with
          | some l1 =>
            if l1.state = .ready then
              match self (.code (some id) l.body a1 (h1.putO id (.loop { l1 with state := .busy }))) with
              | some (.at_ x a2 h2) =>
                match x with
                | .panic chain => match rp, a2.defers with
                  | true, [] => some (.pan chain h2)
                  | _, _ => none
                | x =>
                  match jumpOf x, getLoop h2 id with
                  | some j, some l2 => some (.ret (.bool j.isNone) (h2.putO id (.loop { l2 with state := if j.isNone then .ready else .done, pending := j })))
                  | _, _ => none
              | _ => none
            else none
          | none => none
        | _ => none
      else none
    | none => none

def noDraw : ((Job G) → Option (Res G)) → Option Nat → Array Oper → (AAct G) → (AH G) → Option (Res G) := fun _ _ _ _ _ => none
end Go.Ev
end

noncomputable section
namespace Go.Ev
variable {G : Ctx}

/-- The fence in which things are done. -/
structure FB (P : Program) (L : Look) (F0 : Fence) (rp : Bool) : Prop where
  look : LookOK P L
  round : F0.round = none
  depth : F0.depth = none
  fn : ∀ f, (P.funcs[f]?).isSome = true → F0.fn f
  rp : rp = true → ∀ f, F0.fn f → (P.funcs[f]?).isSome = true

theorem FB.wide {P : Program} {L : Look} (h : LookOK P L) : FB P L Fence.wide false := ⟨h, rfl, rfl, fun _ _ => trivial, by simp⟩

/-- Only functions that are there. -/
def Fence.there (P : Program) : Fence := { fn := fun f => (P.funcs[f]?).isSome = true, depth := none, alive := false }
theorem FB.there {P : Program} {L : Look} (h : LookOK P L) : FB P L (Fence.there P) true := ⟨h, rfl, rfl, fun _ h => h, fun _ _ h => h⟩
theorem calls_of_there {P : Program} {n : Nat} {f : FuncId} {args : Array Value} {w : World} {R : Ending → World → Prop} (h : CallsIn (Fence.there P) n P f args w R) : Calls P f args w R :=
  h.calls (fun _ _ h => by simp [Fence.there] at h)

def FOK (F0 F : Fence) (rd : Option Nat) (e : (Env G)) : Prop :=
  e.fnok = F0.fn ∧ match rd with
  | none => F = F0
  | some id => ∃ b o, e.φ id = some (b, o) ∧ F = F0.inRound b

section
variable {F0 : Fence}
theorem FOK.none {e : Env G} (h : e.fnok = F0.fn) : FOK F0 F0 none e := ⟨h, rfl⟩

theorem FOK.mono {F : Fence} {rd : Option Nat} {e e' : (Env G)} (h : FOK F0 F rd e) (k : e.le e') : FOK F0 F rd e' := by
  refine ⟨k.fnok.trans h.1, ?_⟩
  cases rd with
  | none => exact h.2
  | some id => obtain ⟨_, b, o, h1, h2⟩ := h; exact ⟨b, o, k.φ _ _ h1, h2⟩

theorem FOK.fnEq {F : Fence} {rd : Option Nat} {e : (Env G)} (h : FOK F0 F rd e) : F.fn = F0.fn := by
  cases rd with
  | none => cases (show F = F0 from h.2); rfl
  | some id => obtain ⟨_, b, o, _, rfl⟩ := h; rfl

theorem FOK.fn {P : Program} {L : Look} {rp : Bool} (hB : FB P L F0 rp) {F : Fence} {rd : Option Nat} {e : (Env G)} (h : FOK F0 F rd e) {f : FuncId} (hf : (P.funcs[f]?).isSome = true) : F.fn f := by
  rw [h.fnEq]; exact hB.fn f hf

theorem FOK.depth {P : Program} {L : Look} {rp : Bool} (hB : FB P L F0 rp) {F : Fence} {rd : Option Nat} {e : (Env G)} (h : FOK F0 F rd e) (n : Nat) : F.depth.isSome = true → 1 ≤ n := by
  cases rd with
  | none => cases (show F = F0 from h.2); intro k; rw [hB.depth] at k; cases k
  | some id => obtain ⟨_, b, o, _, rfl⟩ := h; intro k; rw [Fence.inRound_depth, hB.depth] at k; cases k

theorem FOK.calls {F : Fence} {rd : Option Nat} {e : (Env G)} (h : FOK F0 F rd e) {n : Nat} {P : Program} {f : FuncId} {args : Array Value} {w : World} {R : Ending → World → Prop} (k : CallsIn F0 n P f args w R) : CallsIn F n P f args w R := by
  cases rd with
  | none => cases (show F = F0 from h.2); exact k
  | some id => obtain ⟨_, b, o, _, rfl⟩ := h; exact k

theorem FOK.rounds {F : Fence} {rd : Option Nat} {e : (Env G)} (h : FOK F0 F rd e) {n : Nat} {P : Program} {l : Nat} {f : FuncId} {tm : Array Value} {as bd : Code} {w : World} {R : Ending → World → Prop} (k : RoundIn F0 n P l f tm as bd w R) : RoundIn F n P l f tm as bd w R := by
  cases rd with
  | none => cases (show F = F0 from h.2); exact k
  | some id => obtain ⟨_, b, o, _, rfl⟩ := h; exact k
end

def DefR (e : (Env G)) : ADf G → Deferred → Prop
  | .mark id, d => ∃ b o, e.φ id = some (b, o) ∧ d = { target := .collected b, args := #[] }
  | .fn f cap args, d => ∃ cap' args', d = { target := .fn (.func f) cap', args := args' } ∧ VRs e cap cap'.toList ∧ VRs e args args'.toList

def DefsR (e : (Env G)) : List (ADf G) → List Deferred → Prop
  | [], l => l = []
  | a :: r, l => ∃ d l', l = d :: l' ∧ DefR e a d ∧ DefsR e r l'

theorem DefR.mono {e e' : (Env G)} (h : e.le e') {a : ADf G} {d : Deferred} (k : DefR e a d) : DefR e' a d := by
  cases a with
  | mark id => obtain ⟨b, o, h1, h2⟩ := k; exact ⟨b, o, h.φ _ _ h1, h2⟩
  | fn f cap args => obtain ⟨c, r, h1, h2, h3⟩ := k; exact ⟨c, r, h1, VRs.mono h _ _ h2, VRs.mono h _ _ h3⟩

theorem DefsR.mono {e e' : (Env G)} (h : e.le e') : ∀ {l : List (ADf G)} {m : List Deferred}, DefsR e l m → DefsR e' l m
  | [], _, k => k
  | a :: r, _, k => by
    obtain ⟨d, l', h1, h2, h3⟩ := k
    exact ⟨d, l', h1, h2.mono h, h3.mono h⟩

structure ActR (e : (Env G)) (aa : (AAct G)) (a : Act) : Prop where
  tmps : TRs e aa.tmps a.tmps
  defers : DefsR e aa.defers a.defers

theorem ActR.mono {e e' : (Env G)} (h : e.le e') {aa : (AAct G)} {a : Act} (k : ActR e aa a) : ActR e' aa a := ⟨k.tmps.mono h, k.defers.mono h⟩

theorem ActR.put {e : (Env G)} {aa : (AAct G)} {a : Act} (k : ActR e aa a) (dst : Option Nat) {v : (AV G)} {v' : Value} (hv : VR e v v') : ActR e (putA aa dst v) (a.put dst v') := by
  cases dst with
  | none => exact k
  | some d =>
    refine ⟨?_, k.defers⟩
    exact k.tmps.set hv

def JobOK (P : Program) (F0 : Fence) : (Job G) → (Res G) → Prop
  | .code rd c aa h, .at_ x aa' h' => ∀ (e : (Env G)) (a : Act) (w : World) (F : Fence) (n : Nat) (Q : Exit → Act → World → Prop), HR e h w → ActR e aa a → FOK F0 F rd e →
      (∀ e' a' w', St e h w e' h' w' → ActR e' aa' a' → Q x a' w') → c.wpIn F n P Q a w
  | .ops rd ops l aa h, .at_ x aa' h' => ∀ (e : (Env G)) (a : Act) (w : World) (F : Fence) (n : Nat) (Q : Exit → Act → World → Prop), HR e h w → ActR e aa a → FOK F0 F rd e →
      (∀ e' a' w', St e h w e' h' w' → ActR e' aa' a' → Q x a' w') → wpOpsIn F n P ops Q l a w
  | .call f args h, .ret v h' => ∀ (e : (Env G)) (vs : Array Value) (w : World) (n : Nat) (R : Ending → World → Prop), e.fnok = F0.fn → HR e h w → VRs e args vs.toList →
      (∀ e' v' w', St e h w e' h' w' → VR e' v v' → R (.returned v') w') → CallsIn F0 n P f vs w R
  | .call f args h, .pan chain h' => ∀ (e : (Env G)) (vs : Array Value) (w : World) (n : Nat) (R : Ending → World → Prop), e.fnok = F0.fn → HR e h w → VRs e args vs.toList →
      (∀ e' w', St e h w e' h' w' → R (.panicked chain) w') → CallsIn F0 n P f vs w R
  | .round id args h, .ret v h' => ∀ (e : (Env G)) (vs : Array Value) (w : World) (n : Nat) (R : Ending → World → Prop) (b x : Nat), e.fnok = F0.fn → HR e h w → VRs e args vs.toList → e.φ id = some (b, x) →
      (∀ e' v' w', St e h w e' h' w' → VR e' v v' → R (.returned v') w') → ∃ f tm as bd, (Instr.yield b vs).run P w = .ok (.round b f tm as bd) w ∧ RoundIn F0 n P b f tm as bd w R
  | .round id args h, .pan chain h' => ∀ (e : (Env G)) (vs : Array Value) (w : World) (n : Nat) (R : Ending → World → Prop) (b x : Nat), e.fnok = F0.fn → HR e h w → VRs e args vs.toList → e.φ id = some (b, x) →
      (∀ e' w', St e h w e' h' w' → R (.panicked chain) w') → ∃ f tm as bd, (Instr.yield b vs).run P w = .ok (.round b f tm as bd) w ∧ RoundIn F0 n P b f tm as bd w R
  | _, _ => False

def SelfOK (P : Program) (F0 : Fence) (self : (Job G) → Option (Res G)) : Prop := ∀ j r, self j = some r → JobOK P F0 j r

def DrawOK (P : Program) (F0 : Fence) (draw : ((Job G) → Option (Res G)) → Option Nat → Array Oper → (AAct G) → (AH G) → Option (Res G)) : Prop :=
  ∀ self, SelfOK P F0 self → ∀ rd ops aa h r id, draw self rd ops aa h = some r → JobOK P F0 (.code rd (.region id ops true) aa h) r

theorem noDraw_ok (P : Program) (F0 : Fence) : DrawOK (G := G) P F0 noDraw := fun _ _ _ _ _ _ _ _ h => by cases h

section
variable {P : Program} {L : Look} {F0 : Fence} {rp : Bool} {e : (Env G)} {aa : (AAct G)} {a : Act} {h : (AH G)} {w : World} {F : Fence} {rd : Option Nat} {n : Nat} {K : Act → World → Prop} {Q : Exit → Act → World → Prop}

theorem getT_get {tm : (TT G)} {vs : Array Value} (t : Nat) (h : TRs e tm vs) : (vs[t]? = none ∧ getT tm t = undefA) ∨ ∃ v, vs[t]? = some v ∧ VR e (getT tm t) v := by
  cases hv : vs[t]? with
  | some v => exact .inr ⟨v, rfl, h.get t v hv⟩
  | none =>
    have := Array.getElem?_eq_none_iff.1 hv
    have := h.size
    exact .inl ⟨rfl, getT_none (h.out t (by omega))⟩

theorem wantA_sound {ops : Array Oper} {o : Oper} {b : Bool} (ha : TRs e aa.tmps a.tmps) (hw : wantA ops aa.tmps o = some b) : Region.wanted o (yielded ops a.tmps) = b := by
  unfold wantA at hw
  unfold Region.wanted
  split at hw
  · rename_i hg; cases hw; rw [hg]
  · rename_i j want hg
    rw [hg]
    simp only
    split at hw
    · rename_i t ht
      rcases getT_get t ha with ⟨h1, h2⟩ | ⟨v, h1, h2⟩
      · rw [h2] at hw
        simp only [undefA] at hw; cases hw
        have : a.tmps[t]? = none := h1
        simp [yielded, ht, this]
      · have h1' : a.tmps[t]? = some v := h1
        split at hw
        · rename_i b' hb; cases hw
          rw [hb] at h2; cases h2.bool
          simp [yielded, ht, h1']
        · rename_i vs hb; cases hw
          rw [hb] at h2; obtain ⟨xs, rfl, _⟩ := h2.tuple
          simp [yielded, ht, h1']
        · cases hw
    · rename_i ht; cases hw
      simp [yielded, ht]

theorem semAt_plain {o : Oper} (ho : ∀ c, o.op ≠ .defer c) : o.semAt F.round a.eval = execOp a.eval o := Oper.semAt_eq _ _ _ ho

theorem deferArm_some {tm : TT G} {c : Call} {r : OpRes G} (h : deferArm L tm c = some r) : ∃ x f first cap args, c.callee = .value x ∧ rho tm x = some (.func (.func f) first cap) ∧ rhos tm c.args.toList = some args ∧ r = .dfr (.fn f cap (first ++ args)) := by
  unfold deferArm at h
  split at h
  · rename_i x hx
    split at h
    · rename_i f first cap args h1 h2
      split at h
      · cases h
        exact ⟨x, f, first, cap, args, hx, h1, h2, rfl⟩
      · cases h
    · cases h
  · cases h

theorem panicArm_some {tm : TT G} {x : Operand} {r : OpRes G} (h : panicArm tm x = some r) : ∃ b v, rho tm x = some b ∧ panV b = some v ∧ r = .pan v := by
  unfold panicArm at h
  split at h
  · rename_i b hb
    obtain ⟨v, h1, h2⟩ := Option.map_eq_some_iff.1 h
    exact ⟨b, v, hb, h1, h2.symm⟩
  · cases h

theorem cl1_sound {b : AV G} {v : Value} (h : cl1 b = some v) {x : Value} (hx : VR e b x) : x = v := by
  unfold cl1 at h
  split at h
  · cases h; exact hx.bool
  · cases h; exact hx.int
  · cases h; exact hx.str
  · cases h

theorem cls_sound : ∀ {l : List (AV G)} {vs : List Value}, cls l = some vs → ∀ {xs : List Value}, VRs e l xs → xs = vs
  | [], vs, h, xs, hx => by simp only [cls] at h; cases h; simpa [VRs] using hx
  | b :: l, vs, h, xs, hx => by
    simp only [cls] at h
    split at h
    · rename_i v r h1 h2
      cases h
      simp only [VRs] at hx
      obtain ⟨y, ys, rfl, k1, k2⟩ := hx
      rw [cl1_sound h1 k1, cls_sound h2 k2]
    · cases h

theorem clV_sound {b : AV G} {v : Value} (h : clV b = some v) {x : Value} (hx : VR e b x) : x = v := by
  unfold clV at h
  split at h
  · obtain ⟨l, h1, rfl⟩ := Option.map_eq_some_iff.1 h
    obtain ⟨xs, rfl, k⟩ := hx.agg
    rw [← cls_sound h1 k]
  · exact cl1_sound h hx

theorem panV_sound {b : AV G} {v : Value} (h : panV b = some v) {x : Value} (hx : VR e b x) : x = v ∧ ∃ t y, v = .iface t y := by
  unfold panV at h
  split at h
  · obtain ⟨y, h1, rfl⟩ := Option.map_eq_some_iff.1 h
    simp only [VR] at hx
    obtain ⟨z, rfl, k⟩ := hx
    exact ⟨by rw [clV_sound h1 k], _, _, rfl⟩
  · cases h

theorem aboutA_sound (hL : LookOK P L) {tm : TT G} (ht : TRs e tm a.tmps) {o : Oper} (h : aboutA L tm o.op = true) {w : World} {f : FuncId} (hf : o.about P w a.eval = some f) : (P.funcs[f]?).isSome = true := by
  unfold Oper.about at hf
  split at hf
  · rename_i c hop
    rw [hop] at h
    simp only [aboutA] at h
    split at h
    · rename_i b hb
      simp [resolve, hb, Target.leads] at hf
    · rename_i x hx
      split at h
      · rename_i f' first cap hr
        have hv := rho_sound ht hr
        simp only [VR] at hv
        obtain ⟨f1, c1, hev, _, _⟩ := hv
        simp [resolve, hx, Deferred.ofValue, hev, Target.leads] at hf
        subst hf
        obtain ⟨⟨fn, c⟩, hfc⟩ := Option.isSome_iff_exists.1 h
        rw [(hL _ _ _ hfc).1]; rfl
      · cases h
      · cases h
      · cases h
      · rename_i b h1 h2 h3 hr
        have hv := rho_sound ht hr
        exfalso
        simp only [resolve, hx] at hf
        cases b with
        | func fn f c => exact absurd rfl (h2 _ _ _)
        | opq k => exact absurd rfl (h3 _)
        | yield id => simp only [VR] at hv; obtain ⟨_, _, _, hv⟩ := hv; simp [Deferred.ofValue, hv, Target.leads] at hf
        | nilf => simp only [VR] at hv; simp [Deferred.ofValue, hv, Target.leads] at hf
        | bool b => simp only [VR] at hv; simp [Deferred.ofValue, hv] at hf
        | int k n => simp only [VR] at hv; simp [Deferred.ofValue, hv] at hf
        | str s => simp only [VR] at hv; simp [Deferred.ofValue, hv] at hf
        | ptr i o => simp only [VR] at hv; obtain ⟨_, _, _, hv⟩ := hv; simp [Deferred.ofValue, hv] at hf
        | nilp => simp only [VR] at hv; simp [Deferred.ofValue, hv] at hf
        | slice _ _ _ _ _ => obtain ⟨_, _, _, _, hv, _⟩ := hv.slice; simp [Deferred.ofValue, hv] at hf
        | nils => simp only [VR] at hv; simp [Deferred.ofValue, hv] at hf
        | map id => simp only [VR] at hv; obtain ⟨_, _, _, hv⟩ := hv; simp [Deferred.ofValue, hv] at hf
        | nilm => simp only [VR] at hv; simp [Deferred.ofValue, hv] at hf
        | iface t x => simp only [VR] at hv; obtain ⟨_, hv, _⟩ := hv; simp [Deferred.ofValue, hv] at hf
        | nili => simp only [VR] at hv; simp [Deferred.ofValue, hv] at hf
        | agg cs => simp only [VR] at hv; obtain ⟨_, hv, _⟩ := hv; simp [Deferred.ofValue, hv] at hf
        | tuple cs => simp only [VR] at hv; obtain ⟨_, hv, _⟩ := hv; simp [Deferred.ofValue, hv] at hf
        | sx x l u => simp only [VR] at hv; simp [Deferred.ofValue, hv.1] at hf
    · cases h
  · cases hf

theorem opA_val (hB : FB P L F0 rp) (H : HR e h w) (hA : ActR e aa a) (hF : FOK F0 F rd e) {o : Oper} {v : (AV G)} {h1 : (AH G)} (hab : aboutA L aa.tmps o.op = true) (ho : opA P L aa.tmps h o.op = some (.val v h1))
    (hK : ∀ e1 w1 v', St e h w e1 h1 w1 → VR e1 v v' → K (a.put o.dst v') w1) : o.wpIn F n P a w K Q := by
  have pure_ : ∀ {v1 : (AV G)}, pureOp P aa.tmps o.op = some v1 → v1 = v → h1 = h → (∀ c, o.op ≠ .defer c) → o.wpIn F n P a w K Q := by
    intro v1 hp hv hh hd
    subst hv hh
    obtain ⟨v', k1, k2⟩ := pureOp_sound hA.tmps hp
    refine ⟨fun f hf => hF.fn hB (aboutA_sound hB.look hA.tmps hab hf), ?_⟩
    rw [semAt_plain hd, k2 w]
    exact hK e w v' (St.refl H) k1
  have read_ : ∀ {v1 : (AV G)}, readOp P aa.tmps h o.op = some v1 → v1 = v → h1 = h → (∀ c, o.op ≠ .defer c) → o.wpIn F n P a w K Q := by
    intro v1 hp hv hh hd
    subst hv hh
    obtain ⟨v', k1, k2⟩ := readOp_sound H hA.tmps hp
    refine ⟨fun f hf => hF.fn hB (aboutA_sound hB.look hA.tmps hab hf), ?_⟩
    rw [semAt_plain hd, k2]
    exact hK e w v' (St.refl H) k1
  have step_ : ∀ {v1 : (AV G)} {h2 : (AH G)}, stepOp P aa.tmps h o.op = some (v1, h2) → v1 = v → h1 = h2 → (∀ c, o.op ≠ .defer c) → o.wpIn F n P a w K Q := by
    intro v1 h2 hp hv hh hd
    subst hv hh
    obtain ⟨e', w', r, v', k1, k2, k3, k4⟩ := stepOp_sound H hA.tmps hp
    refine ⟨fun f hf => hF.fn hB (aboutA_sound hB.look hA.tmps hab hf), ?_⟩
    rw [semAt_plain hd, k1]
    rcases k2 with rfl | ⟨rfl, rfl⟩
    · exact hK e' w' v' k4 k3
    · exact hK e' w' undef k4 k3
  unfold opA callArm at ho
  split at ho
  · rename_i hop; obtain ⟨v1, hp, hq⟩ := Option.map_eq_some_iff.1 ho; cases hq; exact read_ hp rfl rfl (by rw [hop]; simp)
  · rename_i hop; obtain ⟨v1, hp, hq⟩ := Option.map_eq_some_iff.1 ho; cases hq; exact read_ hp rfl rfl (by rw [hop]; simp)
  · rename_i hop; obtain ⟨⟨v1, h2⟩, hp, hq⟩ := Option.map_eq_some_iff.1 ho; cases hq; exact step_ hp rfl rfl (by rw [hop]; simp)
  · rename_i hop; obtain ⟨⟨v1, h2⟩, hp, hq⟩ := Option.map_eq_some_iff.1 ho; cases hq; exact step_ hp rfl rfl (by rw [hop]; simp)
  · rename_i hop; obtain ⟨⟨v1, h2⟩, hp, hq⟩ := Option.map_eq_some_iff.1 ho; cases hq; exact step_ hp rfl rfl (by rw [hop]; simp)
  · rename_i hop; obtain ⟨⟨v1, h2⟩, hp, hq⟩ := Option.map_eq_some_iff.1 ho; cases hq; exact step_ hp rfl rfl (by rw [hop]; simp)
  · rename_i hop; obtain ⟨⟨v1, h2⟩, hp, hq⟩ := Option.map_eq_some_iff.1 ho; cases hq; exact step_ hp rfl rfl (by rw [hop]; simp)
  · rename_i hop; obtain ⟨⟨v1, h2⟩, hp, hq⟩ := Option.map_eq_some_iff.1 ho; cases hq; exact step_ hp rfl rfl (by rw [hop]; simp)
  · rename_i hop; obtain ⟨⟨v1, h2⟩, hp, hq⟩ := Option.map_eq_some_iff.1 ho; cases hq; exact step_ hp rfl rfl (by rw [hop]; simp)
  · rename_i hop; obtain ⟨⟨v1, h2⟩, hp, hq⟩ := Option.map_eq_some_iff.1 ho; cases hq; exact step_ hp rfl rfl (by rw [hop]; simp)
  · rename_i c hop
    split at ho
    · obtain ⟨⟨v1, h2⟩, hp, hq⟩ := Option.map_eq_some_iff.1 ho; cases hq; exact step_ hp rfl rfl (by rw [hop]; simp)
    · obtain ⟨⟨v1, h2⟩, hp, hq⟩ := Option.map_eq_some_iff.1 ho; cases hq; exact step_ hp rfl rfl (by rw [hop]; simp)
    · obtain ⟨v1, hp, hq⟩ := Option.map_eq_some_iff.1 ho; cases hq; exact pure_ hp rfl rfl (by rw [hop]; simp)
    · split at ho
      · split at ho
        · cases ho
        · cases ho
      · cases ho
      · cases ho
    · cases ho
  · obtain ⟨_, _, _, _, _, _, _, _, hr⟩ := deferArm_some ho; cases hr
  · obtain ⟨_, _, _, _, hr⟩ := panicArm_some ho; cases hr
  · obtain ⟨v1, hp, hq⟩ := Option.map_eq_some_iff.1 ho; cases hq
    refine pure_ hp rfl rfl (fun c hc => ?_)
    rw [hc] at hp; simp [pureOp] at hp

theorem run_callFunc {f : FuncId} {fn : Func} (hf : P.funcs[f]? = some fn) (h1 : (fn.name == "runtime.NumGoroutine") = false) (h2 : fn.body.isSome = true) (args : Array Value) (w : World) : (callFunc f args).run P w = .ok (.enter f args) w := by
  have : fn.body.isNone = false := by cases hb : fn.body <;> simp_all
  simp only [callFunc, Sem.run_bind, run_program, Result.andThen_ok, hf, h1, this]
  simp

theorem opA_call (hL : LookOK P L) (hA : ActR e aa a) {o : Oper} {f : FuncId} {args : List (AV G)} (ho : opA P L aa.tmps h o.op = some (.call f args)) :
    ∃ vs : Array Value, VRs e args vs.toList ∧ (∀ w, (execOp a.eval o).run P w = .ok (.enter f vs) w) ∧ ∀ c, o.op ≠ .defer c := by
  unfold opA callArm at ho
  split at ho <;> first
    | (obtain ⟨v1, hp, hq⟩ := Option.map_eq_some_iff.1 ho; cases hq; done)
    | (obtain ⟨_, _, _, _, _, _, _, _, hr⟩ := deferArm_some ho; cases hr; done)
    | (obtain ⟨_, _, _, _, hr⟩ := panicArm_some ho; cases hr; done)
    | skip
  rename_i c hop
  split at ho <;> first
    | (obtain ⟨v1, hp, hq⟩ := Option.map_eq_some_iff.1 ho; cases hq; done)
    | (cases ho; done)
    | skip
  rename_i x hcal
  split at ho
  · rename_i f' first cap as hx has
    split at ho
    · rename_i fc hfn
      obtain ⟨q1, q2, q3⟩ := hL _ _ _ hfn
      cases ho
      have hxv := rho_sound hA.tmps hx
      simp only [VR] at hxv
      obtain ⟨f1, c1, hev, k1, k2⟩ := hxv
      have k3 := rhos_sound hA.tmps has
      refine ⟨f1 ++ c.args.map a.eval ++ c1, ?_, fun w => ?_, by rw [hop]; simp⟩
      · have := (k1.append k3).append k2
        simpa using this
      · simp only [execOp, hop, resolve, hcal, Sem.run_bind, Deferred.ofValue, hev, Sem.run_pure, Result.andThen_ok, invoke]
        exact run_callFunc q1 q3 (by rw [q2]; rfl) _ w
    · cases ho
  · cases ho
  · cases ho

theorem opA_round (hA : ActR e aa a) {o : Oper} {id : Nat} {args : List (AV G)} (ho : opA P L aa.tmps h o.op = some (.round id args)) :
    ∃ (vs : Array Value) (b x : Nat), e.φ id = some (b, x) ∧ VRs e args vs.toList ∧ (∀ w, (execOp a.eval o).run P w = (Instr.yield b vs).run P w) ∧ ∀ c, o.op ≠ .defer c := by
  unfold opA callArm at ho
  split at ho <;> first
    | (obtain ⟨v1, hp, hq⟩ := Option.map_eq_some_iff.1 ho; cases hq; done)
    | (obtain ⟨_, _, _, _, _, _, _, _, hr⟩ := deferArm_some ho; cases hr; done)
    | (obtain ⟨_, _, _, _, hr⟩ := panicArm_some ho; cases hr; done)
    | skip
  rename_i c hop
  split at ho <;> first
    | (obtain ⟨v1, hp, hq⟩ := Option.map_eq_some_iff.1 ho; cases hq; done)
    | (cases ho; done)
    | skip
  rename_i x hcal
  split at ho
  · split at ho
    · cases ho
    · cases ho
  · rename_i id' as hx has
    cases ho
    have hxv := rho_sound hA.tmps hx
    simp only [VR] at hxv
    obtain ⟨b, o', hφ, hev⟩ := hxv
    have k3 := rhos_sound hA.tmps has
    refine ⟨c.args.map a.eval, b, o', hφ, by simpa using k3, fun w => ?_, by rw [hop]; simp⟩
    simp only [execOp, hop, resolve, hcal, Sem.run_bind, Deferred.ofValue, hev, Sem.run_pure, Result.andThen_ok, invoke]
    simp
  · cases ho

section
variable {tm : TT G}
theorem opA_does (H : HR e h w) (hA : TRs e tm a.tmps) {o : Oper} {v : (AV G)} {h1 : (AH G)} (ho : opA P L tm h o.op = some (.val v h1)) :
    Does P e h w a o v h1 ∧ (∀ cs b, o.op ≠ .select cs b) ∧ ∀ c, o.op ≠ .defer c := by
  have pure_ : ∀ {v1 : (AV G)}, pureOp P tm o.op = some v1 → v1 = v → h1 = h → Does P e h w a o v h1 := by
    intro v1 hp hv hh
    subst hv hh
    obtain ⟨v', k1, k2⟩ := pureOp_sound hA hp
    exact ⟨e, w, _, v', k2 w, .inl rfl, k1, St.refl H⟩
  have read_ : ∀ {v1 : (AV G)}, readOp P tm h o.op = some v1 → v1 = v → h1 = h → Does P e h w a o v h1 := by
    intro v1 hp hv hh
    subst hv hh
    obtain ⟨v', k1, k2⟩ := readOp_sound H hA hp
    exact ⟨e, w, _, v', k2, .inl rfl, k1, St.refl H⟩
  have step_ : ∀ {v1 : (AV G)} {h2 : (AH G)}, stepOp P tm h o.op = some (v1, h2) → v1 = v → h1 = h2 → Does P e h w a o v h1 := by
    intro v1 h2 hp hv hh
    subst hv hh
    exact stepOp_sound H hA hp
  unfold opA callArm at ho
  split at ho
  · rename_i hop; obtain ⟨v1, hp, hq⟩ := Option.map_eq_some_iff.1 ho; cases hq; exact ⟨read_ hp rfl rfl, by rw [hop]; simp, by rw [hop]; simp⟩
  · rename_i hop; obtain ⟨v1, hp, hq⟩ := Option.map_eq_some_iff.1 ho; cases hq; exact ⟨read_ hp rfl rfl, by rw [hop]; simp, by rw [hop]; simp⟩
  · rename_i hop; obtain ⟨⟨v1, h2⟩, hp, hq⟩ := Option.map_eq_some_iff.1 ho; cases hq; exact ⟨step_ hp rfl rfl, by rw [hop]; simp, by rw [hop]; simp⟩
  · rename_i hop; obtain ⟨⟨v1, h2⟩, hp, hq⟩ := Option.map_eq_some_iff.1 ho; cases hq; exact ⟨step_ hp rfl rfl, by rw [hop]; simp, by rw [hop]; simp⟩
  · rename_i hop; obtain ⟨⟨v1, h2⟩, hp, hq⟩ := Option.map_eq_some_iff.1 ho; cases hq; exact ⟨step_ hp rfl rfl, by rw [hop]; simp, by rw [hop]; simp⟩
  · rename_i hop; obtain ⟨⟨v1, h2⟩, hp, hq⟩ := Option.map_eq_some_iff.1 ho; cases hq; exact ⟨step_ hp rfl rfl, by rw [hop]; simp, by rw [hop]; simp⟩
  · rename_i hop; obtain ⟨⟨v1, h2⟩, hp, hq⟩ := Option.map_eq_some_iff.1 ho; cases hq; exact ⟨step_ hp rfl rfl, by rw [hop]; simp, by rw [hop]; simp⟩
  · rename_i hop; obtain ⟨⟨v1, h2⟩, hp, hq⟩ := Option.map_eq_some_iff.1 ho; cases hq; exact ⟨step_ hp rfl rfl, by rw [hop]; simp, by rw [hop]; simp⟩
  · rename_i hop; obtain ⟨⟨v1, h2⟩, hp, hq⟩ := Option.map_eq_some_iff.1 ho; cases hq; exact ⟨step_ hp rfl rfl, by rw [hop]; simp, by rw [hop]; simp⟩
  · rename_i hop; obtain ⟨⟨v1, h2⟩, hp, hq⟩ := Option.map_eq_some_iff.1 ho; cases hq; exact ⟨step_ hp rfl rfl, by rw [hop]; simp, by rw [hop]; simp⟩
  · rename_i c hop
    split at ho
    · obtain ⟨⟨v1, h2⟩, hp, hq⟩ := Option.map_eq_some_iff.1 ho; cases hq; exact ⟨step_ hp rfl rfl, by rw [hop]; simp, by rw [hop]; simp⟩
    · obtain ⟨⟨v1, h2⟩, hp, hq⟩ := Option.map_eq_some_iff.1 ho; cases hq; exact ⟨step_ hp rfl rfl, by rw [hop]; simp, by rw [hop]; simp⟩
    · obtain ⟨v1, hp, hq⟩ := Option.map_eq_some_iff.1 ho; cases hq; exact ⟨pure_ hp rfl rfl, by rw [hop]; simp, by rw [hop]; simp⟩
    · split at ho
      · split at ho
        · cases ho
        · cases ho
      · cases ho
      · cases ho
    · cases ho
  · obtain ⟨_, _, _, _, _, _, _, _, hr⟩ := deferArm_some ho; cases hr
  · obtain ⟨_, _, _, _, hr⟩ := panicArm_some ho; cases hr
  · obtain ⟨v1, hp, hq⟩ := Option.map_eq_some_iff.1 ho; cases hq
    exact ⟨pure_ hp rfl rfl, fun cs b hc => by rw [hc] at hp; simp [pureOp] at hp, fun c hc => by rw [hc] at hp; simp [pureOp] at hp⟩

end

theorem opA_dfr (hA : TRs e aa.tmps a.tmps) {o : Oper} {d : ADf G} (ho : opA P L aa.tmps h o.op = some (.dfr d)) : ∃ d', DefR e d d' ∧ ∀ w, (execOp a.eval o).run P w = .ok (.defer d') w := by
  unfold opA callArm at ho
  split at ho <;> first
    | (obtain ⟨v1, hp, hq⟩ := Option.map_eq_some_iff.1 ho; cases hq; done)
    | (obtain ⟨_, _, _, _, hr⟩ := panicArm_some ho; cases hr; done)
    | skip
  · split at ho <;> first
      | (obtain ⟨v1, hp, hq⟩ := Option.map_eq_some_iff.1 ho; cases hq; done)
      | (cases ho; done)
      | skip
    split at ho
    · split at ho
      · cases ho
      · cases ho
    · cases ho
    · cases ho
  · rename_i c hop
    obtain ⟨x, f, first, cap, args, h1, h2, h3, h4⟩ := deferArm_some ho
    cases h4
    have hv := rho_sound hA h2
    simp only [VR] at hv
    obtain ⟨f1, c1, hev, k1, k2⟩ := hv
    have k3 := rhos_sound hA h3
    refine ⟨{ target := .fn (.func f) c1, args := f1 ++ c.args.map a.eval }, ⟨c1, _, rfl, k2, by simpa using k1.append k3⟩, fun w => ?_⟩
    simp [execOp, hop, resolve, h1, Deferred.ofValue, hev]

theorem opA_pan (hA : TRs e aa.tmps a.tmps) {o : Oper} {v : Value} (ho : opA P L aa.tmps h o.op = some (.pan v)) : (∀ w, (execOp a.eval o).run P w = .halt (.panic v) w) ∧ ∀ c, o.op ≠ .defer c := by
  unfold opA callArm at ho
  split at ho <;> first
    | (obtain ⟨v1, hp, hq⟩ := Option.map_eq_some_iff.1 ho; cases hq; done)
    | (obtain ⟨_, _, _, _, _, _, _, _, hr⟩ := deferArm_some ho; cases hr; done)
    | skip
  · split at ho <;> first
      | (obtain ⟨v1, hp, hq⟩ := Option.map_eq_some_iff.1 ho; cases hq; done)
      | (cases ho; done)
      | skip
    split at ho
    · split at ho
      · cases ho
      · cases ho
    · cases ho
    · cases ho
  · rename_i x hop
    obtain ⟨b, v', h1, h2, h3⟩ := panicArm_some ho
    cases h3
    obtain ⟨h4, t, y, rfl⟩ := panV_sound h2 (rho_sound hA h1)
    refine ⟨fun w => ?_, by rw [hop]; simp⟩
    simp [execOp, hop, h4, Instr.panic, goPanic]

theorem unV_sound {v : Value} {b : AV G} (h : unV v = some b) : VR e b v := by
  unfold unV at h
  split at h
  · obtain ⟨l, h1, rfl⟩ := Option.map_eq_some_iff.1 h
    simp only [VR]
    exact ⟨_, rfl, _, rfl, ofVl_sound h1⟩
  · obtain ⟨l, h1, rfl⟩ := Option.map_eq_some_iff.1 h
    simp only [VR]
    exact ⟨_, rfl, ofV1_sound h1⟩
  · cases h
end
end Go.Ev
end

noncomputable section
namespace Go.Ev
variable {G : Ctx}
section
variable {P : Program} {L : Look} {F0 : Fence} {rp : Bool}

theorem JobOK.code_res {rd : Option Nat} {c : Code} {a : (AAct G)} {h : (AH G)} {r : (Res G)} (k : JobOK P F0 (.code rd c a h) r) : ∃ x a' h', r = .at_ x a' h' := by
  cases r with
  | at_ x a h => exact ⟨x, a, h, rfl⟩
  | ret v h => exact k.elim
  | pan ch h => exact k.elim

theorem JobOK.ops_res {rd : Option Nat} {ops : Array Oper} {l : List Nat} {a : (AAct G)} {h : (AH G)} {r : (Res G)} (k : JobOK P F0 (.ops rd ops l a h) r) : ∃ x a' h', r = .at_ x a' h' := by
  cases r with
  | at_ x a h => exact ⟨x, a, h, rfl⟩
  | ret v h => exact k.elim
  | pan ch h => exact k.elim

theorem then_ne {next : Act → World → Prop} {Q : Exit → Act → World → Prop} {x : Exit} {a : Act} {w : World} (hx : x ≠ .normal) (h : Q x a w) : Exit.then next Q x a w := by
  cases x <;> first | exact absurd rfl hx | exact h

theorem loopA_sound {self : (Job G) → Option (Res G)} (hs : SelfOK P F0 self) {rd : Option Nat} {c : Code} : ∀ (m : Nat) {aa : (AAct G)} {h : (AH G)} {r : (Res G)}, loopA self rd c m aa h = some r →
    ∃ x aa' h', r = .at_ x aa' h' ∧ ∀ (e : (Env G)) (a : Act) (w : World) (F : Fence) (n : Nat) (Q : Exit → Act → World → Prop), HR e h w → ActR e aa a → FOK F0 F rd e →
      (∀ e' a' w', St e h w e' h' w' → ActR e' aa' a' → Q x a' w') → Code.roundsIn F n P c Q m a w
  | 0, _, _, _, h => by simp [loopA] at h
  | m + 1, aa, h, r, hl => by
    unfold loopA at hl
    split at hl
    · rename_i a1 h1 hc
      obtain ⟨x, aa', h', hr, k⟩ := loopA_sound hs m hl
      refine ⟨x, aa', h', hr, fun e a w F n Q H hA hF hQ => ?_⟩
      have hj := hs _ _ hc
      rw [roundsIn_succ]
      refine hj e a w F n _ H hA hF (fun e1 a1' w1 hst hA1 => ?_)
      exact k e1 a1' w1 F n Q hst.hr hA1 (hF.mono hst.le) (fun e2 a2 w2 hst2 hA2 => hQ e2 a2 w2 (hst.trans hst2) hA2)
    · rename_i hne
      have hj := hs _ _ hl
      obtain ⟨x, aa', h', rfl⟩ := hj.code_res
      refine ⟨x, aa', h', rfl, fun e a w F n Q H hA hF hQ => ?_⟩
      rw [roundsIn_succ]
      refine hj e a w F n _ H hA hF (fun e1 a1' w1 hst hA1 => then_ne (fun hx => ?_) (hQ e1 a1' w1 hst hA1))
      subst hx
      exact hne _ _ hl

def resV (ts : Array Value) : ResultVar → Sem Value
  | .tmp t => pure (ts.getD t Go.undef)
  | .cell a t => do loadVar t (← asAddr (ts.getD a Go.undef))

theorem resA_sound {e : (Env G)} {h : (AH G)} {w : World} {tm : (TT G)} {ts : Array Value} (H : HR e h w) (ht : TRs e tm ts) {r : ResultVar} {v : (AV G)} (hr : resA P tm h r = some v) :
    ∃ v', VR e v v' ∧ (resV ts r).run P w = .ok v' w := by
  have hg : ∀ t, VR e (getT tm t) (ts.getD t Go.undef) := fun t => by
    exact getT_sound (e := e) t ht
  cases r with
  | tmp t => simp only [resA] at hr; cases hr; exact ⟨_, hg t, rfl⟩
  | cell p t =>
    simp only [resA] at hr
    have hp := hg p
    split at hr
    · rename_i id off n hx hrow
      obtain ⟨cs, hcs, rfl⟩ := Option.map_eq_some_iff.1 hr
      rw [hx] at hp
      obtain ⟨b, o', hφ, h1⟩ := hp.ptr
      obtain ⟨hl, vals, h2, h3⟩ := read_sound H hcs hφ
      obtain ⟨d, hu, hd, hi⟩ := rowOf_some hrow
      refine ⟨.agg vals.toArray, by simp only [VR]; exact ⟨_, rfl, by simpa using h2⟩, ?_⟩
      have := run_loadVar_mid (P := P) w b (o' + off) t vals d h3 hu hd (by rw [hi, h2.length, hl])
      simp only [resV, h1, asAddr, Sem.run_bind, Sem.run_pure, Result.andThen_ok, this]
    · rename_i id off hx hrow
      rw [hx] at hp
      obtain ⟨b, o', hφ, h1⟩ := hp.ptr
      obtain ⟨v', h2, h3⟩ := read1_sound H hr hφ
      obtain ⟨d, hu, hd⟩ := rowOf_none hrow
      refine ⟨v', h2, ?_⟩
      simp only [resV, h1, asAddr, Sem.run_bind, Sem.run_pure, Result.andThen_ok]
      simp [loadVar, run_isAgg hu, hd, h3]
    · cases hr

theorem ressA_sound {e : (Env G)} {h : (AH G)} {w : World} {tm : (TT G)} {ts : Array Value} (H : HR e h w) (ht : TRs e tm ts) : ∀ {l : List ResultVar} {vs : List (AV G)}, ressA P tm h l = some vs →
    ∃ vs', VRs e vs vs' ∧ (l.mapM (resV ts)).run P w = .ok vs' w
  | [], vs, h1 => by simp only [ressA] at h1; cases h1; exact ⟨[], by simp [VRs], by simp⟩
  | r :: l, vs, h1 => by
    simp only [ressA] at h1
    split at h1
    · rename_i v us hv hus
      cases h1
      obtain ⟨v', k1, k2⟩ := resA_sound H ht hv
      obtain ⟨us', k3, k4⟩ := ressA_sound H ht hus
      refine ⟨v' :: us', by simp only [VRs]; exact ⟨_, _, rfl, k1, k3⟩, ?_⟩
      rw [List.mapM_cons, Sem.run_bind, k2]
      simp only [Result.andThen_ok, Sem.run_bind, k4, Sem.run_pure]
    · cases h1

theorem results_sound {e : (Env G)} {h : (AH G)} {w : World} {tm : (TT G)} {ts : Array Value} {fn : Func} {vs : List (AV G)} (H : HR e h w) (ht : TRs e tm ts) (hr : ressA P tm h fn.results.toList = some vs) :
    ∃ v', VR e (tupA vs) v' ∧ (results fn ts).run P w = .ok v' w := by
  obtain ⟨vs', k1, k2⟩ := ressA_sound H ht hr
  have hres : (results fn ts).run P w = .ok (if h : vs'.toArray.size = 1 then vs'.toArray[0] else .tuple vs'.toArray) w := by
    unfold results
    rw [Sem.run_bind, Array.mapM_eq_mapM_toList, Sem.run_map]
    have hf : ∀ f : ResultVar → Sem Value, (∀ x, f x = resV ts x) → (fn.results.toList.mapM f).run P w = .ok vs' w := fun f hf => by rw [show f = resV ts from funext hf]; exact k2
    rw [hf _ (by intro x; cases x <;> rfl)]
    rfl
  rw [hres]
  match vs, k1 with
  | [], k1 =>
    simp only [VRs] at k1; subst k1
    exact ⟨.tuple #[], by simp [tupA, VR, VRs], by simp⟩
  | [v], k1 =>
    simp only [VRs] at k1
    obtain ⟨v', _, rfl, k, rfl⟩ := k1
    exact ⟨v', by simpa [tupA] using k, by simp⟩
  | v :: u :: r, k1 =>
    have hl := k1.length
    refine ⟨.tuple vs'.toArray, by simp only [tupA, VR]; exact ⟨_, rfl, by simpa using k1⟩, ?_⟩
    simp at hl
    rw [dif_neg (by simp; omega)]


theorem opsS_sound (hB : FB P L F0 rp) {ops : Array Oper} {n : Nat} : ∀ {l : List Nat} {aa : AAct G} {u : FrameMode} {h : AH G} {aa' : AAct G} {u' : FrameMode} {h' : AH G}, opsS P L ops l aa u h = some (aa', u', h') →
    ∀ (e : Env G) (a : Act) (c₀ : Frame) (cs : List Frame) (w : World) (Q : Exit → Act → List Frame → World → Prop), e.fnok = F0.fn → HR e h w → ActR e aa a → c₀.mode = u →
      (∀ e' a' w', St e h w e' h' w' → ActR e' aa' a' → Q .normal a' ({ c₀ with mode := u' } :: cs) w') → wpOpsSIn F0 n P ops Q l a (c₀ :: cs) w
  | [], aa, u, h, aa', u', h', hj => by
    simp only [opsS] at hj; cases hj
    intro e a c₀ cs w Q hE H hA hm hQ
    have := hQ e a w (St.refl H) hA
    rw [← hm] at this
    exact this
  | i :: rest, aa, u, h, aa', u', h', hj => by
    intro e a c₀ cs w Q hE H hA hm hQ
    have hF : FOK (G := G) F0 F0 none e := .none hE
    simp only [opsS] at hj
    simp only [wpOpsSIn]
    split at hj
    · rename_i ho
      simp only [ho]
      exact opsS_sound hB hj e a c₀ cs w Q hE H hA hm hQ
    · rename_i o ho
      simp only [ho]
      split at hj
      · cases hj
      · rename_i hab
        refine ⟨fun f hf => hF.fn hB (aboutA_sound hB.look hA.tmps hab hf), ?_⟩
        split at hj
        · rename_i hw
          simp only [wantA_sound hA.tmps hw, Bool.false_eq_true, if_false]
          exact opsS_sound hB hj e _ c₀ cs w Q hE H (hA.put o.dst VR_undef) hm hQ
        · rename_i hw
          simp only [wantA_sound hA.tmps hw, if_true]
          split at hj
          · rename_i hr
            split at hj
            · rename_i v u1 hrec
              have hrun : (execOp a.eval o).run P w = .ok .recover w := by
                unfold isRecover at hr
                split at hr
                · rename_i c hop
                  split at hr
                  · rename_i hc
                    split at hr
                    · rename_i h0
                      have hargs : c.args = #[] := Array.eq_empty_of_size_eq_zero h0
                      simp [execOp, hop, resolve, hc, invoke, builtin]
                    · cases hr
                  · cases hr
                · cases hr
              rw [hrun]
              simp only
              unfold recA at hrec
              split at hrec
              · rename_i p older
                split at hrec
                · rename_i hp1 hp2
                  split at hrec
                  · rename_i b hb
                    cases hrec
                    have hrd : recoverD (c₀ :: cs) = some (p.v, { c₀ with mode := .panicking ({ v := p.v, recovered := true } :: older) } :: cs) := by
                      obtain ⟨pv, pr, pg⟩ := p
                      simp only at hp1 hp2
                      subst hp1 hp2
                      simp [recoverD, hm]
                    rw [hrd]
                    simp only
                    have := opsS_sound (n := n) hB hj e (a.put o.dst p.v) { c₀ with mode := .panicking ({ v := p.v, recovered := true } :: older) } cs w Q hE H (hA.put o.dst (unV_sound hb)) rfl hQ
                    exact this
                  · cases hrec
                · cases hrec
              · cases hrec
                have hrd : recoverD (c₀ :: cs) = none := by simp [recoverD, hm]
                rw [hrd]
                simp only
                exact opsS_sound hB hj e _ c₀ cs w Q hE H (hA.put o.dst (by simp [VR])) hm hQ
              · cases hrec
            · cases hj
          · split at hj
            · rename_i v h1 hop
              obtain ⟨⟨e1, w1, r, v', q1, q2, q3, q4⟩, _, _⟩ := opA_does H hA.tmps hop
              rw [q1]
              rcases q2 with rfl | ⟨rfl, rfl⟩
              · exact opsS_sound hB hj e1 _ c₀ cs w1 Q (q4.le.fnok.trans hE) q4.hr ((hA.mono q4.le).put o.dst q3) hm (fun e' a' w' s1 s2 => hQ e' a' w' (q4.trans s1) s2)
              · exact opsS_sound hB hj e1 _ c₀ cs w1 Q (q4.le.fnok.trans hE) q4.hr ((hA.mono q4.le).put o.dst q3) hm (fun e' a' w' s1 s2 => hQ e' a' w' (q4.trans s1) s2)
            · cases hj
        · cases hj

theorem codeS_sound (hB : FB P L F0 rp) {self : Job G → Option (Res G)} (hs : SelfOK P F0 self) {n : Nat} : ∀ {c : Code} {aa : AAct G} {u : FrameMode} {h : AH G} {x : Exit} {aa' : AAct G} {u' : FrameMode} {h' : AH G}, codeS P L self c aa u h = some (x, aa', u', h') →
    ∀ (e : Env G) (a : Act) (c₀ : Frame) (cs : List Frame) (w : World) (Q : Exit → Act → List Frame → World → Prop), e.fnok = F0.fn → HR e h w → ActR e aa a → c₀.mode = u →
      (∀ e' a' w', St e h w e' h' w' → ActR e' aa' a' → Q x a' ({ c₀ with mode := u' } :: cs) w') → c.wpSIn F0 n P Q a (c₀ :: cs) w := by
  have plain_ : ∀ {c : Code} {aa : AAct G} {u : FrameMode} {h : AH G} {x : Exit} {aa' : AAct G} {u' : FrameMode} {h' : AH G}, (match self (.code none c aa h) with | some (.at_ x a' h') => some (x, a', u, h') | _ => none) = some (x, aa', u', h') →
      ∀ (e : Env G) (a : Act) (c₀ : Frame) (cs : List Frame) (w : World) (Q : Exit → Act → List Frame → World → Prop), e.fnok = F0.fn → HR e h w → ActR e aa a → c₀.mode = u →
      (∀ e' a' w', St e h w e' h' w' → ActR e' aa' a' → Q x a' ({ c₀ with mode := u' } :: cs) w') → c.wpSIn F0 n P Q a (c₀ :: cs) w := by
    intro c aa u h x aa' u' h' hj e a c₀ cs w Q hE H hA hm hQ
    split at hj
    · rename_i hc
      cases hj
      refine wpSIn_of_wpIn hB.round (hs _ _ hc e a w F0 n _ H hA (.none hE) (fun e' a' w' s1 s2 => ?_))
      have := hQ e' a' w' s1 s2
      rw [← hm] at this
      exact this
    · cases hj
  intro c
  induction c with
  | region id ops dr =>
    intro aa u h x aa' u' h' hj
    cases dr with
    | true => exact plain_ hj
    | false =>
      simp only [codeS] at hj
      split at hj
      · split at hj
        · rename_i a1 u1 h1 ho
          cases hj
          intro e a c₀ cs w Q hE H hA hm hQ
          exact wpSIn_region (opsS_sound hB ho e a c₀ cs w Q hE H hA hm hQ)
        · cases hj
      · exact plain_ hj
  | seq p q ihp ihq =>
    intro aa u h x aa' u' h' hj e a c₀ cs w Q hE H hA hm hQ
    simp only [codeS] at hj
    refine wpSIn_seq ?_
    split at hj
    · rename_i a1 u1 h1 hp
      refine ihp hp e a c₀ cs w _ hE H hA hm (fun e1 b1 w1 s1 s2 => ?_)
      exact ihq hj e1 b1 { c₀ with mode := u1 } cs w1 Q (s1.le.fnok.trans hE) s1.hr s2 rfl (fun e' a' w' s3 s4 => hQ e' a' w' (s1.trans s3) s4)
    · rename_i hne
      refine ihp hj e a c₀ cs w _ hE H hA hm (fun e1 b1 w1 s1 s2 => ?_)
      have := hQ e1 b1 w1 s1 s2
      cases x <;> first | exact absurd hj (hne _ _ _) | exact this
  | cond t p q ihp ihq =>
    intro aa u h x aa' u' h' hj e a c₀ cs w Q hE H hA hm hQ
    simp only [codeS] at hj
    split at hj
    · rename_i hc
      exact wpSIn_cond (t := true) (rho_sound hA.tmps hc).bool (ihp hj e a c₀ cs w Q hE H hA hm hQ)
    · rename_i hc
      exact wpSIn_cond (t := false) (rho_sound hA.tmps hc).bool (ihq hj e a c₀ cs w Q hE H hA hm hQ)
    · cases hj
  | _ => intro aa u h x aa' u' h' hj; exact plain_ hj

theorem resV_sound {e : (Env G)} {h : (AH G)} {w : World} {tm : (TT G)} {ts : Array Value} {fn : Func} {vs : List (AV G)} (H : HR e h w) (ht : TRs e tm ts) (hr : ressA P tm h fn.results.toList = some vs) :
    ∃ v', (results fn ts).run P w = .ok v' w := by
  obtain ⟨v', _, h2⟩ := results_sound H ht hr
  exact ⟨v', h2⟩

theorem dcallA_sound (hB : FB P L F0 rp) {self : Job G → Option (Res G)} (hs : SelfOK P F0 self) {n : Nat} {f : FuncId} {args : List (AV G)} {u u' : FrameMode} {h h' : AH G} (hj : dcallA P L self f args u h = some (u', h')) :
    (∀ ds : Array Value, ∀ w, ∀ cap : Array Value, (invoke (.fn (.func f) cap) ds).run P w = .ok (.enter f (ds ++ cap)) w) ∧ F0.fn f ∧ ∀ (e : Env G) (vs : Array Value) (w : World) (R : Ending → FrameMode → World → Prop), e.fnok = F0.fn → HR e h w → VRs e args vs.toList →
      (∀ e' w' v, St e h w e' h' w' → R (.returned v) u' w') → CallsDIn F0 n P f vs u w R := by
  unfold dcallA at hj
  split at hj
  · rename_i fn c hfc
    obtain ⟨hfn, hb, hnm⟩ := hB.look _ _ _ hfc
    have hF : F0.fn f := hB.fn f (by rw [hfn]; rfl)
    refine ⟨fun ds w cap => ?_, hF, ?_⟩
    · simp only [invoke]
      exact run_callFunc hfn hnm (by rw [hb]; rfl) _ _
    · split at hj
      · rename_i x a' u1 h1 hc
        split at hj
        · rename_i rs hx hd hr
          cases hj
          intro e vs w R hE H hv hR
          refine callsDIn_of_wpSIn hfn hb hF (fun c₀ cs hm => ?_)
          refine codeS_sound hB hs hc e _ c₀ cs w _ hE H ⟨ofT_sound _ hv, rfl⟩ hm (fun e1 a1 w1 s1 s2 => ?_)
          obtain ⟨v', hv'⟩ := resV_sound (P := P) s1.hr s2.tmps hr
          have hd' : a1.defers = [] := by have := s2.defers; rw [hd] at this; exact this
          have key : bodyPostS P fn c₀ cs R .ret a1 ({ c₀ with mode := u' } :: cs) w1 := ⟨hd', u', rfl, v', hv', hR e1 w1 v' s1⟩
          cases x <;> first | exact key | (cases hx; done)
        · cases hj
      · cases hj
  · cases hj

theorem leaveA_sound (hB : FB P L F0 rp) {self : Job G → Option (Res G)} (hs : SelfOK P F0 self) {fn : Func} {tm : Array Value} {n : Nat} {R : Ending → World → Prop} : ∀ {l : List (ADf G)} {u : FrameMode} {ds : List Deferred} {h h' : (AH G)} {u' : FrameMode} {w : World} {e : Env G}, leaveA P L self l u h = some (u', h') → u ≠ .run → e.fnok = F0.fn → HR e h w → DefsR e l ds →
    (∀ e' w', St e h w e' h' w' → u' ≠ .run → LeavesIn F0 n P fn tm R [] u' w') → LeavesInM F0 n P fn tm R ds u w
  | [], u, ds, h, h', u', w, e, hl, hu, hE, H, hD, hR => by
    simp only [DefsR] at hD; subst hD
    simp only [leaveA] at hl; cases hl
    exact hR e w (St.refl H) hu
  | .mark id :: l, u, ds, h, h', u', w, e, hl, hu, hE, H, hD, hR => by
    simp only [DefsR] at hD
    obtain ⟨d, ds', rfl, hd, hD⟩ := hD
    obtain ⟨b, o, hφ, rfl⟩ := hd
    simp only [leaveA] at hl
    split at hl
    · rename_i hid
      obtain ⟨b', o', h1, hbase, h3⟩ := H.obj _ _ hid
      rw [hφ] at h1; cases h1
      have hst : St e h w e (h.putO id (.defd none)) (World.putB w b (.deferred none)) :=
        St.putO (o := .defd (some [])) H hid rfl (by simp) (by simp) hφ h3 ⟨b, o, hφ, hbase, putB_same h3⟩
      refine ⟨hu, .inl ⟨b, World.putB w b (.deferred none), rfl, ?_, ?_⟩⟩
      · have hlt := (Array.getElem?_eq_some_iff.1 h3).1
        simp at h3
        simp [Instr.takeDeferred, getObj, setObj, Sem.run, h3, World.putB]
      · exact leaveA_sound hB hs hl hu (hst.le.fnok.trans hE) hst.hr hD (fun e' w' hw' hn => hR e' w' (hst.trans hw') hn)
    · cases hl
  | .fn f cap args :: l, u, ds, h, h', u', w, e, hl, hu, hE, H, hD, hR => by
    simp only [DefsR] at hD
    obtain ⟨d, ds', rfl, hd, hD⟩ := hD
    obtain ⟨cap', args', rfl, hcap, hargs⟩ := hd
    simp only [leaveA] at hl
    split at hl
    · rename_i u1 h1 hdc
      obtain ⟨k1, k2, k3⟩ := dcallA_sound (n := n - 1) hB hs hdc
      have hset : settle u1 ≠ .run ∧ leaveA P L self l (settle u1) h1 = some (u', h') := by
        split at hl
        · cases hl
        · rename_i hne
          exact ⟨hne, hl⟩
      refine ⟨hu, .inr ⟨(fun k => by rw [hB.depth] at k; cases k), .func f, cap', f, args' ++ cap', rfl, k1 args' w cap', fun g hg => ?_, ?_⟩⟩
      · simp [Target.leads] at hg; subst hg; exact k2
      · refine k3 e _ w _ hE H ?_ (fun e' w' v s1 => ?_)
        · simpa using hargs.append hcap
        · exact leaveA_sound hB hs hset.2 hset.1 (s1.le.fnok.trans hE) s1.hr (hD.mono s1.le) (fun e2 w2 s2 hn => hR e2 w2 (s1.trans s2) hn)
    · cases hl

theorem VRs.foldSet {e : (Env G)} : ∀ (ts : List Nat) {tm : (TT G)} {vs : List (AV G)} {xs : List Value} {us : Array Value}, TRs e tm us → VRs e vs xs →
    TRs e (foldSet tm ts vs) ((ts.zip xs).foldl (fun (t : Array Value) (p : Nat × Value) => t.setIfInBounds p.1 p.2) us)
  | [], tm, vs, xs, us, h, k => by simpa [Ev.foldSet] using h
  | t :: ts, tm, [], xs, us, h, k => by simp only [VRs] at k; subst k; simpa [Ev.foldSet] using h
  | t :: ts, tm, v :: vs, xs, us, h, k => by
    simp only [VRs] at k
    obtain ⟨x, xs', rfl, k1, k2⟩ := k
    simp only [Ev.foldSet, List.zip_cons_cons, List.foldl_cons]
    exact VRs.foldSet ts (h.set k1) k2
end
end Go.Ev
end

noncomputable section
namespace Go.Ev
variable {G : Ctx}
/-- A scope that no jump to a label leaves. -/
def noJump (Q : Exit → Act → World → Prop) : Exit → Act → World → Prop
  | .goto _, _, _ => False
  | e, a, w => Q e a w

section
variable {P : Program} {F : Fence} {n : Nat} {b : Frame} {a : Act} {k : List Item} {cs : List Frame} {w : World} {Q : Exit → Act → World → Prop}

theorem stepR_scope' {c : Code} : step P (lone (b.atR a (.code (.scope c) :: k)) cs w) = .next (lone (b.atR a (.code c :: .inScope c :: k)) cs w) :=
  step_lone_go (by simp [stepG, stepG.exec, Frame.atR])
theorem stepR_inScope' {c : Code} : step P (lone (b.atR a (.inScope c :: k)) cs w) = .next (lone (b.atR a k) cs w) :=
  step_lone_go (by simp [stepG, stepG.exec, Frame.atR])

theorem wpIn_scope_calm {c : Code} (h : c.wpIn F n P (noJump Q) a w) : (Code.scope c).wpIn F n P Q a w := by
  intro b k cs hro hb hr
  have h0 : (lone (b.atR a (.code (.scope c) :: k)) cs w).fenced P F := fenced_calm hb hr rfl
  obtain ⟨e, a₁, w₁, hq, harr⟩ := h b (.inScope c :: k) cs hro hb hr
  cases e with
  | normal => exact ⟨.normal, a₁, w₁, hq, .head h0 stepR_scope' (StepsIn.trans harr (.one (fenced_calm hb hr rfl) stepR_inScope'))⟩
  | exit id =>
    have hx : exitTo id (.inScope c :: k) = exitTo id k := by simp [exitTo]
    exact ⟨.exit id, a₁, w₁, hq, fun k' hk => .head h0 stepR_scope' (harr.1 k' (by rw [hx]; exact hk)),
      fun hr' hk => let ⟨k₁, h1, h2⟩ := harr.2 hr' (by rw [hx]; exact hk); ⟨k₁, h1, .head h0 stepR_scope' h2⟩⟩
  | goto l => exact hq.elim
  | ret => exact ⟨_, a₁, w₁, hq, .of_steps (.one h0 stepR_scope') harr⟩
  | panic ch => exact ⟨_, a₁, w₁, hq, .of_steps (.one h0 stepR_scope') harr⟩
  | outgrown => exact ⟨_, a₁, w₁, hq, .of_steps (.one h0 stepR_scope') harr⟩
end
end Go.Ev
end

noncomputable section
namespace Go.Ev
variable {G : Ctx}
section
variable {P : Program} {L : Look} {F0 : Fence} {rp : Bool}

theorem getLoop_sound {e : (Env G)} {h : (AH G)} {w : World} (H : HR e h w) {id b x : Nat} {l : (ALoop G)} (hl : getLoop h id = some l) (hφ : e.φ id = some (b, x)) : h.objs.get id = some (.loop l) ∧ e.base ≤ b ∧ ∃ L, w.heap[b]? = some (.loop L) ∧ LoopR e l L := by
  unfold getLoop at hl
  split at hl
  · rename_i l' hid
    cases hl
    obtain ⟨b', o, h1, h2, L, h3, h4⟩ := H.obj _ _ hid
    rw [hφ] at h1; cases h1
    exact ⟨hid, h2, L, h3, h4⟩
  · cases hl

theorem run_getLoop {w : World} {b : Nat} {L : Loop} (h : w.heap[b]? = some (.loop L)) : (Instr.getLoop b).run P w = .ok L w := by
  simp [Instr.getLoop, getObj, Sem.run, h]

theorem run_setObj {w : World} {b : Nat} {L : Loop} (h : w.heap[b]? = some (.loop L)) (O : Obj) : (setObj b O).run P w = .ok () (World.putB w b O) := by
  simp [setObj, Sem.run, h, World.putB]

/-- A loop's record is turned. -/
theorem St.putLoop {e : (Env G)} {h : (AH G)} {w : World} (H : HR e h w) {id b x : Nat} {l l' : (ALoop G)} {L L' : Loop} (hid : h.objs.get id = some (.loop l)) (hφ : e.φ id = some (b, x)) (hbase : e.base ≤ b) (hL : w.heap[b]? = some (.loop L)) (hr : LoopR e l' L') :
    St e h w e (h.putO id (.loop l')) (World.putB w b (.loop L')) :=
  St.putO (o := .loop l) H hid rfl (by simp) (by simp) hφ hL ⟨b, x, hφ, hbase, L', putB_same hL, hr⟩


/-- What is asked at a round's end, a panic that passes through it taken in. -/
def roundPostP (P : Program) (l : Nat) (f : FuncId) (R : Ending → World → Prop) : Exit → Act → World → Prop
  | .panic chain, a, w => a.defers = [] ∧ (P.funcs[f]?).isSome = true ∧ R (.panicked chain) w
  | x, a, w => roundPost P l R x a w

theorem roundIn_of_wpInP {F : Fence} {n : Nat} {P : Program} {l : Nat} {f : FuncId} {tmps : Array Value} {assign body : Code} {w : World} {R : Ending → World → Prop} (hF : F.fn f)
    (h : assign.wpIn (F.inRound l) n P (Exit.then (fun a₁ w₁ => ∃ w₂, (Instr.beginRound l).run P w₁ = .ok () w₂ ∧ body.wpIn (F.inRound l) n P (roundPostP P l f R) a₁ w₂) (fun _ _ _ => False))
      { tmps := tmps, defers := [] } w) :
    RoundIn F n P l f tmps assign body w R := by
  refine ⟨hF, fun c cs hr => ?_⟩
  let b : Frame := { (default : Frame) with fn := f, kind := .normal, roundOf := some l }
  have hb0 : Frame.round l f tmps assign body .normal = b.atR { tmps := tmps, defers := [] } [.code assign, .beginRound, .code body] := by
    simp [Frame.round, Frame.atR, b]
  have hr' : (F.inRound l).room ((c :: cs).length + 1 + n) := hr
  have hF' : (F.inRound l).fn b.fn := hF
  obtain ⟨e, a₁, w₁, hq, harr⟩ := h b [.beginRound, .code body] (c :: cs) rfl hF' hr'
  rw [← hb0] at harr
  cases e with
  | normal =>
    obtain ⟨w₂, hbr, hbody⟩ := hq
    have s1 : StepsIn (Machine.fenced P (F.inRound l)) P (lone (b.atR a₁ [.beginRound, .code body]) (c :: cs) w₁) (lone (b.atR a₁ [.code body]) (c :: cs) w₂) :=
      .one (fenced_calm (fr := b.atR a₁ [.beginRound, .code body]) hF' hr' rfl) (stepR_beginRound rfl hbr)
    obtain ⟨e₂, a₂, w₃, hq₂, harr₂⟩ := hbody b [] (c :: cs) rfl hF' hr'
    cases e₂ with
    | normal =>
      obtain ⟨v, w₄, hend, hR⟩ := hq₂
      exact ⟨.returned v, w₄, hR, (StepsIn.trans harr s1).trans (StepsIn.trans harr₂ (.one (fenced_calm (fr := b.atR a₂ []) hF' hr' rfl) (stepR_round_end rfl rfl hend)))⟩
    | ret =>
      obtain ⟨v, w₄, hend, hR⟩ := hq₂
      obtain ⟨k₁, hs⟩ := harr₂.2 rfl
      exact ⟨.returned v, w₄, hR, (StepsIn.trans harr s1).trans (StepsIn.trans hs (.one (fenced_calm (fr := b.atR a₂ (.code .ret :: k₁)) hF' hr' rfl) (stepR_round_ret rfl rfl hend)))⟩
    | exit id =>
      obtain ⟨v, w₄, hend, hR⟩ := hq₂
      obtain ⟨k₁, hk, hs⟩ := harr₂.2 rfl rfl
      exact ⟨.returned v, w₄, hR, (StepsIn.trans harr s1).trans (StepsIn.trans hs (.one (fenced_calm (fr := b.atR a₂ (.code (.exit id) :: k₁)) hF' hr' rfl) (stepR_round_exit rfl rfl hk hend)))⟩
    | goto t =>
      obtain ⟨v, w₄, hend, hR⟩ := hq₂
      obtain ⟨k₁, hk, hs⟩ := harr₂.2 rfl rfl
      exact ⟨.returned v, w₄, hR, (StepsIn.trans harr s1).trans (StepsIn.trans hs (.one (fenced_calm (fr := b.atR a₂ (.code (.goto t) :: k₁)) hF' hr' rfl) (stepR_round_goto rfl rfl hk hend)))⟩
    | panic chain =>
      obtain ⟨hd, hfn, hR⟩ := hq₂
      obtain ⟨todo, hs⟩ := harr₂
      obtain ⟨fn, hfn'⟩ := Option.isSome_iff_exists.1 hfn
      have hl : ({ b.atR a₂ todo with mode := .panicking chain } : Frame).leaving P w₃ (.panicked chain) := ⟨rfl, hd, fn, hfn'⟩
      exact ⟨.panicked chain, w₃, hR, (StepsIn.trans harr s1).trans (StepsIn.trans hs (.one (fenced_leaving (fr := { b.atR a₂ todo with mode := .panicking chain }) hF' hr' hl) (step_leave_panicked hl)))⟩
    | outgrown => exact hq₂.elim
  | exit id => exact hq.elim
  | goto t => exact hq.elim
  | ret => exact hq.elim
  | panic chain => exact hq.elim
  | outgrown => exact hq.elim

theorem round_sound {self : (Job G) → Option (Res G)} (hB : FB P L F0 rp) (hs : SelfOK P F0 self) {draw : ((Job G) → Option (Res G)) → Option Nat → Array Oper → (AAct G) → (AH G) → Option (Res G)} {id : Nat} {args : List (AV G)} {h : (AH G)} {r : (Res G)}
    (hj : stepJ P L rp draw self (.round id args h) = some r) : JobOK P F0 (.round id args h) r := by
  simp only [stepJ] at hj
  split at hj
  · rename_i l hl
    split at hj
    · rename_i hargs
      split at hj
      · rename_i a1 h1 hassign
        split at hj
        · rename_i l1 hl1
          split at hj
          · rename_i hready
            split at hj
            · rename_i x a2 h2 hbody
              -- what a round comes to, whatever way its body was left
              have key : ∀ (R : Ending → World → Prop) (e : Env G) (vs : Array Value) (w : World) (n : Nat) (b x' : Nat), HR e h w → VRs e args vs.toList → e.φ id = some (b, x') →
                  e.fnok = F0.fn → (∀ e2 a2' w2 f, St e h w e2 h2 w2 → ActR e2 a2 a2' → F0.fn f → roundPostP P b f R x a2' w2) → ∃ f tm as bd, (Instr.yield b vs).run P w = .ok (.round b f tm as bd) w ∧ RoundIn F0 n P b f tm as bd w R := by
                intro R e vs w n b x' H hv hφ hE hR
                obtain ⟨hid, hbase, L, hL, hLR⟩ := getLoop_sound H hl hφ
                have hsz : vs.size = L.params.size := by rw [hLR.params, ← hargs]; have := hv.length; simpa using this
                refine ⟨L.fn, (L.params.zip vs).foldl (fun tmps (t, a) => tmps.setIfInBounds t a) L.tmps, L.assign, L.body, ?_, ?_⟩
                · simp [Instr.yield, run_getLoop hL, hsz]
                · have hFn : F0.fn L.fn := by rw [← hE]; exact hLR.fn
                  refine roundIn_of_wpInP hFn ?_
                  rw [hLR.assign]
                  have htm : TRs e (foldSet l.tmps l.params.toList args) ((L.params.zip vs).foldl (fun (tmps : Array Value) (p : Nat × Value) => tmps.setIfInBounds p.1 p.2) L.tmps) := by
                    rw [← Array.foldl_toList, Array.toList_zip, hLR.params]
                    exact VRs.foldSet _ hLR.tmps hv
                  refine hs _ _ hassign e _ w _ n _ H ⟨htm, rfl⟩ ⟨hE, b, x', hφ, rfl⟩ (fun e1 a1' w1 hst1 hA1 => ?_)
                  obtain ⟨hid1, hbase1, L1, hL1, hLR1⟩ := getLoop_sound hst1.hr hl1 (hst1.le.φ _ _ hφ)
                  have hst2 := St.putLoop (l' := { l1 with state := .busy }) (L' := { L1 with state := .busy }) hst1.hr hid1 (hst1.le.φ _ _ hφ) hbase1 hL1 ⟨rfl, hLR1.pending, hLR1.tmps, hLR1.params, hLR1.assign, hLR1.body, hLR1.defers, hLR1.fn⟩
                  refine ⟨World.putB w1 b (.loop { L1 with state := .busy }), ?_, ?_⟩
                  · show (Instr.beginRound b).run P w1 = _
                    simp [Instr.beginRound, run_getLoop hL1, run_setObj hL1, hLR1.state, hready]
                  · rw [hLR.body]
                    exact hs _ _ hbody e1 a1' _ _ n _ hst2.hr hA1 ⟨hst1.le.fnok.trans hE, b, x', hst1.le.φ _ _ hφ, rfl⟩ (fun e2 a2' w2 hst3 hA2 => hR e2 a2' w2 _ ((hst1.trans hst2).trans hst3) hA2 hFn)
              split at hj
              · rename_i chain
                split at hj
                · rename_i hd
                  cases hj
                  intro e vs w n R b x' hE H hv hφ hR
                  refine key R e vs w n b x' H hv hφ hE (fun e2 a2' w2 f hst hA hf => ⟨?_, hB.rp rfl f hf, hR e2 w2 hst⟩)
                  have := hA.defers
                  rw [hd] at this
                  exact this
                · cases hj
              · rename_i hnp
                split at hj
                · rename_i j l2 hjump hl2
                  cases hj
                  intro e vs w n R b x' hE H hv hφ hR
                  refine key R e vs w n b x' H hv hφ hE (fun e2 a2' w2 f hst13 hA hf => ?_)
                  obtain ⟨hid2, hbase2, L2, hL2, hLR2⟩ := getLoop_sound hst13.hr hl2 (hst13.le.φ _ _ hφ)
                  have fin : ∀ jj : Option Code, j = jj → ∃ v w', (Instr.endRound b jj).run P w2 = .ok v w' ∧ R (.returned v) w' := by
                    intro jj hjj
                    subst hjj
                    have hst4 := St.putLoop (l' := { l2 with state := if j.isNone then .ready else .done, pending := j }) (L' := { L2 with state := if j.isNone then .ready else .done, pending := j }) hst13.hr hid2 (hst13.le.φ _ _ hφ) hbase2 hL2
                      ⟨rfl, rfl, hLR2.tmps, hLR2.params, hLR2.assign, hLR2.body, hLR2.defers, hLR2.fn⟩
                    refine ⟨.bool j.isNone, _, ?_, hR e2 _ _ (hst13.trans hst4) (by simp [VR])⟩
                    simp [Instr.endRound, run_getLoop hL2, run_setObj hL2]
                  cases x <;> simp only [jumpOf] at hjump <;> first
                    | (cases hjump; done)
                    | exact fin _ (Option.some.inj hjump).symm
                · cases hj
            · cases hj
          · cases hj
        · cases hj
      · cases hj
    · cases hj
  · cases hj

theorem DefsR.app {e : Env G} : ∀ {l k : List (ADf G)} {m o : List Deferred}, DefsR e l m → DefsR e k o → DefsR e (l ++ k) (m ++ o)
  | [], _, _, _, h, hk => by simp only [DefsR] at h; subst h; exact hk
  | d :: l, _, _, _, h, hk => by
    simp only [DefsR] at h
    obtain ⟨x, l', rfl, h1, h2⟩ := h
    simp only [List.cons_append, DefsR]
    exact ⟨_, _, rfl, h1, DefsR.app h2 hk⟩

theorem range_go_sound {self : (Job G) → Option (Res G)} (hB : FB P L F0 rp) (hs : SelfOK P F0 self) {rd : Option Nat} {g : Operand} {ps : Array Tmp} {assign body : Code} {aa : (AAct G)} {h0 : (AH G)} {f : FuncId} {first cap : List (AV G)} {fn : Func} {df : Nat} {mark : List (ADf G)} {r : (Res G)}
    (hg : rho aa.tmps g = some (.func (.func f) first cap)) (hfn : P.funcs[f]? = some fn) (hn : (fn.name == "runtime.NumGoroutine") = false) (hb : fn.body.isSome = true)
    (hgo : (match self (.call f (first ++ [.yield h0.next] ++ cap) (h0.allocO (.loop { state := .ready, pending := none, tmps := aa.tmps, params := ps, assign, body, defers := df }))) with
              | some (.ret _ h2) =>
                match getLoop h2 h0.next with
                | some l =>
                  if l.state == .busy then none else
                  match l.pending with
                  | none => some (.at_ .normal { aa with defers := mark ++ aa.defers } (h2.putO h0.next (.loop { l with state := .exhausted })))
                  | some c => self (.code rd c { aa with defers := mark ++ aa.defers } (h2.putO h0.next (.loop { l with state := .exhausted })))
                | none => none
              | some (.pan chain h2) => some (.at_ (.panic chain) { aa with defers := mark ++ aa.defers } h2)
              | _ => none) = some r) :
    ∃ x aa' h', r = .at_ x aa' h' ∧ ∀ (e : (Env G)) (a : Act) (w w0 : World) (F : Fence) (n : Nat) (Q : Exit → Act → World → Prop) (dl : List Deferred) (D : Nat) (o : Nat), HR e h0 w0 → ActR e aa a → FOK F0 F rd e → e.φ df = some (D, o) → DefsR e mark dl →
      (∀ fnid, (Instr.enterLoop fnid a.tmps ps assign body F.round).run P w = .ok (w0.heap.size, dl) (w0.alloc (.loop { state := .ready, pending := none, fn := fnid, tmps := a.tmps, params := ps, assign, body, defers := D }))) →
      (∀ e' a' w', St e h0 w0 e' h' w' → ActR e' aa' a' → Q x a' w') → (Code.rangeFunc g ps assign body).wpIn F n P Q a w := by
  split at hgo
  · rename_i v2 h2 hcall
    split at hgo
    · rename_i l hl
      split at hgo
      · cases hgo
      · rename_i hnb
        -- what is done behind the call
        have key : ∃ x aa' h', r = .at_ x aa' h' ∧ ∀ (e2 : (Env G)) (a2 : Act) (w3 : World) (F : Fence) (n : Nat) (Q : Exit → Act → World → Prop), HR e2 (h2.putO h0.next (.loop { l with state := .exhausted })) w3 → ActR e2 { aa with defers := mark ++ aa.defers } a2 → FOK F0 F rd e2 →
            (∀ e' a' w', St e2 (h2.putO h0.next (.loop { l with state := .exhausted })) w3 e' h' w' → ActR e' aa' a' → Q x a' w') → (match l.pending with | none => Q .normal a2 w3 | some c => c.wpIn F n P Q a2 w3) := by
          split at hgo
          · rename_i hpend
            cases hgo
            exact ⟨_, _, _, rfl, fun e2 a2 w3 F n Q H2 hA2 hF2 hQ => hQ e2 a2 w3 (St.refl H2) hA2⟩
          · rename_i c hpend
            obtain ⟨x, aa', h', rfl⟩ := (hs _ _ hgo).code_res
            exact ⟨x, aa', h', rfl, fun e2 a2 w3 F n Q H2 hA2 hF2 hQ => hs _ _ hgo e2 a2 w3 F n Q H2 hA2 hF2 hQ⟩
        obtain ⟨x, aa', h', hr, key⟩ := key
        refine ⟨x, aa', h', hr, fun e a w w0 F n Q dl D o H hA hF hD hdl henter hQ => ?_⟩
        refine wpIn_rangeFunc (fun fnid hfn0 => ?_)
        have hfnid : F0.fn fnid := by rw [← hF.fnEq]; exact hfn0
        have hgv := rho_sound hA.tmps hg
        simp only [VR] at hgv
        obtain ⟨f1, c1, hev, k1, k2⟩ := hgv
        have hent := henter fnid
        obtain ⟨L0, hL0⟩ : ∃ L0 : Loop, L0 = { state := .ready, pending := none, fn := fnid, tmps := a.tmps, params := ps, assign := assign, body := body, defers := D } := ⟨_, rfl⟩
        rw [← hL0] at hent
        refine ⟨w0.heap.size, dl, w0.alloc (.loop L0), { target := .fn (.func f) c1, args := f1 ++ #[.func (.yield w0.heap.size) #[] #[]] }, w0.alloc (.loop L0), f, f1 ++ #[.func (.yield w0.heap.size) #[] #[]] ++ c1, w0.alloc (.loop L0), hent, ?_, (fun f' hf' => by simp [Target.leads] at hf'; subst hf'; exact hF.fn hB (by rw [hfn]; rfl)), ?_, hF.depth hB n, hF.calls ?_⟩
        · have hc : (#[Operand.const (.func (.yield w0.heap.size) #[] #[])] : Array Operand).map a.eval = #[.func (.yield w0.heap.size) #[] #[]] := by simp [Act.eval]
          simp only [resolve, hc, hev, Deferred.ofValue, Sem.run_pure]
        · simp only [invoke]
          exact run_callFunc hfn hn hb _ _
        · have hle : e.le (e.bind h0.next w0.heap.size 0) := Env.le_bind (H.freshφ _ (Nat.le_refl _))
          have hst := St.allocO H (.loop { state := .ready, pending := none, tmps := aa.tmps, params := ps, assign, body, defers := df }) (.loop L0) (by simp)
            ⟨w0.heap.size, 0, Env.bind_same _ _ _ _, H.base, _, heap_alloc_new w0 _, by subst hL0; exact ⟨rfl, rfl, hA.tmps.mono hle, rfl, rfl, rfl, ⟨o, hle.φ _ _ hD⟩, by rw [hle.fnok, hF.1]; exact hfnid⟩⟩
          refine hs _ _ hcall _ _ _ _ _ (hst.le.fnok.trans hF.1) hst.hr ?_ (fun e2 v' w2 hst2 hv2 => ?_)
          · have hy : VRs (e.bind h0.next w0.heap.size 0) [.yield h0.next] [.func (.yield w0.heap.size) #[] #[]] := by
              simp only [VRs, VR]
              exact ⟨_, _, rfl, ⟨_, _, Env.bind_same _ _ _ _, rfl⟩, rfl⟩
            have := ((VRs.mono hle _ _ k1).append hy).append (VRs.mono hle _ _ k2)
            simpa using this
          · have hst12 := hst.trans hst2
            have hφ2 := hst2.le.φ _ _ (Env.bind_same e h0.next w0.heap.size 0)
            obtain ⟨hid, hbase, L, hL, hLR⟩ := getLoop_sound hst2.hr hl hφ2
            have hst3 := St.putLoop (l' := { l with state := .exhausted }) (L' := { L with state := .exhausted }) hst2.hr hid hφ2 hbase hL ⟨rfl, hLR.pending, hLR.tmps, hLR.params, hLR.assign, hLR.body, hLR.defers, hLR.fn⟩
            refine ⟨L.pending, World.putB w2 w0.heap.size (.loop { L with state := .exhausted }), ?_, ?_⟩
            · have : (L.state == LoopState.busy) = false := by rw [hLR.state]; simpa using hnb
              show (Instr.endLoop w0.heap.size).run P w2 = _
              simp only [Instr.endLoop, Sem.run_bind, run_getLoop hL, Result.andThen_ok, this, Bool.false_eq_true, if_false, run_setObj hL, Sem.run_pure]
            · have hA2 : ActR e2 { aa with defers := mark ++ aa.defers } { a with defers := dl ++ a.defers } := by
                refine ⟨hA.tmps.mono hst12.le, ?_⟩
                exact DefsR.app (hdl.mono hst12.le) (hA.defers.mono hst12.le)
              have := key e2 { a with defers := dl ++ a.defers } _ F n Q hst3.hr hA2 (hF.mono hst12.le) (fun e' a' w' hst4 hA4 => hQ e' a' w' ((hst12.trans hst3).trans hst4) hA4)
              rw [← hLR.pending] at this
              exact this
    · cases hgo
  · rename_i chain h2 hcall
    cases hgo
    refine ⟨_, _, _, rfl, fun e a w w0 F n Q dl D o H hA hF hD hdl henter hQ => ?_⟩
    refine wpIn_rangeFunc (fun fnid hfn0 => ?_)
    have hfnid : F0.fn fnid := by rw [← hF.fnEq]; exact hfn0
    have hgv := rho_sound hA.tmps hg
    simp only [VR] at hgv
    obtain ⟨f1, c1, hev, k1, k2⟩ := hgv
    have hent := henter fnid
    obtain ⟨L0, hL0⟩ : ∃ L0 : Loop, L0 = { state := .ready, pending := none, fn := fnid, tmps := a.tmps, params := ps, assign := assign, body := body, defers := D } := ⟨_, rfl⟩
    rw [← hL0] at hent
    refine ⟨w0.heap.size, dl, w0.alloc (.loop L0), { target := .fn (.func f) c1, args := f1 ++ #[.func (.yield w0.heap.size) #[] #[]] }, w0.alloc (.loop L0), f, f1 ++ #[.func (.yield w0.heap.size) #[] #[]] ++ c1, w0.alloc (.loop L0), hent, ?_, (fun f' hf' => by simp [Target.leads] at hf'; subst hf'; exact hF.fn hB (by rw [hfn]; rfl)), ?_, hF.depth hB n, hF.calls ?_⟩
    · have hc : (#[Operand.const (.func (.yield w0.heap.size) #[] #[])] : Array Operand).map a.eval = #[.func (.yield w0.heap.size) #[] #[]] := by simp [Act.eval]
      simp only [resolve, hc, hev, Deferred.ofValue, Sem.run_pure]
    · simp only [invoke]
      exact run_callFunc hfn hn hb _ _
    · have hle : e.le (e.bind h0.next w0.heap.size 0) := Env.le_bind (H.freshφ _ (Nat.le_refl _))
      have hst := St.allocO H (.loop { state := .ready, pending := none, tmps := aa.tmps, params := ps, assign, body, defers := df }) (.loop L0) (by simp)
        ⟨w0.heap.size, 0, Env.bind_same _ _ _ _, H.base, _, heap_alloc_new w0 _, by subst hL0; exact ⟨rfl, rfl, hA.tmps.mono hle, rfl, rfl, rfl, ⟨o, hle.φ _ _ hD⟩, by rw [hle.fnok, hF.1]; exact hfnid⟩⟩
      refine hs _ _ hcall _ _ _ _ _ (hst.le.fnok.trans hF.1) hst.hr ?_ (fun e2 w2 hst2 => ?_)
      · have hy : VRs (e.bind h0.next w0.heap.size 0) [.yield h0.next] [.func (.yield w0.heap.size) #[] #[]] := by
          simp only [VRs, VR]
          exact ⟨_, _, rfl, ⟨_, _, Env.bind_same _ _ _ _, rfl⟩, rfl⟩
        have := ((VRs.mono hle _ _ k1).append hy).append (VRs.mono hle _ _ k2)
        simpa using this
      · have hst12 := hst.trans hst2
        exact hQ e2 _ w2 hst12 ⟨hA.tmps.mono hst12.le, DefsR.app (hdl.mono hst12.le) (hA.defers.mono hst12.le)⟩
  · cases hgo

theorem stepJ_sound {draw : ((Job G) → Option (Res G)) → Option Nat → Array Oper → (AAct G) → (AH G) → Option (Res G)} (hd : DrawOK P F0 draw) {self : (Job G) → Option (Res G)} (hB : FB P L F0 rp) (hs : SelfOK P F0 self) : SelfOK P F0 (stepJ P L rp draw self) := by
  intro j r hj
  cases j with
  | code rd c aa h =>
    cases c with
    | skip =>
      simp only [stepJ] at hj; cases hj
      exact fun e a w F n Q H hA hF hQ => wpIn_skip (hQ e a w (St.refl H) hA)
    | label l =>
      simp only [stepJ] at hj; cases hj
      exact fun e a w F n Q H hA hF hQ => wpIn_label (hQ e a w (St.refl H) hA)
    | region id ops dr =>
      cases dr with
      | false =>
        simp only [stepJ] at hj
        have k := hs _ _ hj
        cases r with
        | at_ x aa' h' => exact fun e a w F n Q H hA hF hQ => wpIn_region (k e a w F n Q H hA hF hQ)
        | ret v h' => exact k.elim
        | pan ch h' => exact k.elim
      | true =>
        simp only [stepJ] at hj
        exact hd self hs rd ops aa h r id hj
    | seq x y =>
      simp only [stepJ] at hj
      split at hj
      · rename_i a1 h1 hx
        have k1 := hs _ _ hx
        have k2 := hs _ _ hj
        obtain ⟨x', aa', h', rfl⟩ := k2.code_res
        exact fun e a w F n Q H hA hF hQ => wpIn_seq (k1 e a w F n _ H hA hF (fun e1 a1' w1 hst hA1 =>
          k2 e1 a1' w1 F n Q hst.hr hA1 (hF.mono hst.le) (fun e2 a2 w2 hst2 hA2 => hQ e2 a2 w2 (hst.trans hst2) hA2)))
      · rename_i hne
        have k1 := hs _ _ hj
        obtain ⟨x', aa', h', rfl⟩ := k1.code_res
        exact fun e a w F n Q H hA hF hQ => wpIn_seq (k1 e a w F n _ H hA hF (fun e1 a1' w1 hst hA1 => then_ne (fun hx => by subst hx; exact hne _ _ hj) (hQ e1 a1' w1 hst hA1)))
    | cond c x y =>
      simp only [stepJ] at hj
      split at hj
      · rename_i hc
        have k := hs _ _ hj
        obtain ⟨x', aa', h', rfl⟩ := k.code_res
        exact fun e a w F n Q H hA hF hQ => wpIn_cond_true (rho_sound hA.tmps hc).bool (k e a w F n Q H hA hF hQ)
      · rename_i hc
        have k := hs _ _ hj
        obtain ⟨x', aa', h', rfl⟩ := k.code_res
        exact fun e a w F n Q H hA hF hQ => wpIn_cond_false (rho_sound hA.tmps hc).bool (k e a w F n Q H hA hF hQ)
      · cases hj
    | block id x =>
      simp only [stepJ] at hj
      split at hj
      · rename_i id' a1 h1 hx
        cases hj
        have k := hs _ _ hx
        refine fun e a w F n Q H hA hF hQ => wpIn_block (k e a w F n _ H hA hF (fun e1 a1' w1 hst hA1 => ?_))
        have := hQ e1 a1' w1 hst hA1
        by_cases hid : id' = id
        · rw [if_pos hid] at this; simp only [Exit.inBlock, if_pos hid]; exact this
        · rw [if_neg hid] at this; simp only [Exit.inBlock, if_neg hid]; exact this
      · rename_i hne
        have k := hs _ _ hj
        obtain ⟨x', aa', h', rfl⟩ := k.code_res
        refine fun e a w F n Q H hA hF hQ => wpIn_block (k e a w F n _ H hA hF (fun e1 a1' w1 hst hA1 => ?_))
        have := hQ e1 a1' w1 hst hA1
        cases x' <;> first | exact this | exact absurd hj (hne _ _ _)
    | loop x =>
      simp only [stepJ] at hj
      obtain ⟨x', aa', h', rfl, k⟩ := loopA_sound hs loopMost hj
      exact fun e a w F n Q H hA hF hQ => wpIn_loop_rounds loopMost (k e a w F n Q H hA hF hQ)
    | exit id =>
      simp only [stepJ] at hj; cases hj
      exact fun e a w F n Q H hA hF hQ => wpIn_exit (hQ e a w (St.refl H) hA)
    | goto l =>
      simp only [stepJ] at hj; cases hj
      exact fun e a w F n Q H hA hF hQ => wpIn_goto (hQ e a w (St.refl H) hA)
    | ret =>
      simp only [stepJ] at hj; cases hj
      exact fun e a w F n Q H hA hF hQ => wpIn_ret (hQ e a w (St.refl H) hA)
    | scope x =>
      simp only [stepJ] at hj
      split at hj
      · cases hj
      · rename_i hne
        have k := hs _ _ hj
        obtain ⟨x', aa', h', rfl⟩ := k.code_res
        refine fun e a w F n Q H hA hF hQ => wpIn_scope_calm (k e a w F n _ H hA hF (fun e1 a1' w1 hst hA1 => ?_))
        have := hQ e1 a1' w1 hst hA1
        cases x' <;> first | exact this | exact absurd hj (hne _ _ _)
    | refuse why => simp only [stepJ] at hj; cases hj
    | rangeFunc g ps assign body =>
      simp only [stepJ] at hj
      split at hj
      · rename_i f first cap hg
        split at hj
        · rename_i fc hfn0
          obtain ⟨hfn, hbc, hnm⟩ := hB.look _ _ _ hfn0
          have hc : (fc.1.name == "runtime.NumGoroutine") = false ∧ fc.1.body.isSome = true := ⟨hnm, by rw [hbc]; rfl⟩
          · split at hj
            · -- an outermost loop
              obtain ⟨x, aa', h', rfl, k⟩ := range_go_sound hB hs hg hfn hc.1 hc.2 hj
              refine fun e a w F n Q H hA hF hQ => ?_
              have hst := St.allocO H (.defd (some [])) (.deferred (some [])) (by simp) ⟨w.heap.size, 0, Env.bind_same _ _ _ _, H.base, heap_alloc_new w _⟩
              refine k _ a w _ F n Q [{ target := .collected w.heap.size, args := #[] }] w.heap.size 0 hst.hr (hA.mono hst.le) (hF.mono hst.le) (Env.bind_same _ _ _ _) ?_ (fun fnid => ?_) (fun e' a' w' h1 h2 => hQ e' a' w' (hst.trans h1) h2)
              · simp only [DefsR, DefR]
                exact ⟨_, _, rfl, ⟨_, _, Env.bind_same _ _ _ _, rfl⟩, rfl⟩
              · cases (show F = F0 from hF.2)
                simp [Instr.enterLoop, hB.round]
            · rename_i lid
              split at hj
              · rename_i l hl
                obtain ⟨x, aa', h', rfl, k⟩ := range_go_sound hB hs hg hfn hc.1 hc.2 hj
                refine fun e a w F n Q H hA hF hQ => ?_
                have hF0 := hF
                obtain ⟨_, b, o, hφ, rfl⟩ := hF0
                obtain ⟨hid, hbase, L, hL, hLR⟩ := getLoop_sound H hl hφ
                obtain ⟨o2, hdf⟩ := hLR.defers
                refine k e a w w _ n Q [] L.defers o2 H hA hF hdf rfl (fun fnid => ?_) hQ
                simp [Instr.enterLoop, run_getLoop hL]
              · cases hj
        · cases hj
      · cases hj
  | ops rd ops l aa h =>
    cases l with
    | nil =>
      simp only [stepJ] at hj; cases hj
      exact fun e a w F n Q H hA hF hQ => hQ e a w (St.refl H) hA
    | cons i rest =>
      simp only [stepJ] at hj
      split at hj
      · rename_i ho
        have k := hs _ _ hj
        cases r with
        | ret v h' => exact k.elim
        | pan ch h' => exact k.elim
        | at_ x aa' h' =>
          refine fun e a w F n Q H hA hF hQ => ?_
          simp only [wpOpsIn, ho]
          exact k e a w F n Q H hA hF hQ
      · rename_i o ho
        split at hj
        · cases hj
        · rename_i hab
          split at hj
          · rename_i hw
            have habs : ∀ {e : Env G} {a : Act} {w : World} {F : Fence}, ActR e aa a → FOK F0 F rd e → ∀ f, o.about P w a.eval = some f → F.fn f := fun hA hF f hf => hF.fn hB (aboutA_sound hB.look hA.tmps hab hf)
            split at hj
            · rename_i v h1 hop
              have k := hs _ _ hj
              obtain ⟨x, aa', h', rfl⟩ := k.ops_res
              refine fun e a w F n Q H hA hF hQ => ?_
              simp only [wpOpsIn, ho, wantA_sound hA.tmps hw, if_true]
              exact opA_val hB H hA hF hab hop (fun e1 w1 v' hst hv => k e1 _ w1 F n Q hst.hr ((hA.mono hst.le).put o.dst hv) (hF.mono hst.le) (fun e2 a2 w2 hst2 hA2 => hQ e2 a2 w2 (hst.trans hst2) hA2))
            · rename_i f args hop
              split at hj
              · rename_i v h1 hcall
                have k := hs _ _ hj
                have kc := hs _ _ hcall
                obtain ⟨x, aa', h', rfl⟩ := k.ops_res
                refine fun e a w F n Q H hA hF hQ => ?_
                simp only [wpOpsIn, ho, wantA_sound hA.tmps hw, if_true]
                obtain ⟨vs, k1, k2, k3⟩ := opA_call hB.look hA hop
                refine ⟨habs hA hF, ?_⟩
                rw [semAt_plain k3, k2]
                refine ⟨hF.depth hB n, hF.calls (kc e vs w (n - 1) _ hF.1 H k1 (fun e1 v' w1 hst hv => ?_))⟩
                exact k e1 _ w1 F n Q hst.hr ((hA.mono hst.le).put o.dst hv) (hF.mono hst.le) (fun e2 a2 w2 hst2 hA2 => hQ e2 a2 w2 (hst.trans hst2) hA2)
              · rename_i ch h1 hcall
                cases hj
                have kc := hs _ _ hcall
                refine fun e a w F n Q H hA hF hQ => ?_
                simp only [wpOpsIn, ho, wantA_sound hA.tmps hw, if_true]
                obtain ⟨vs, k1, k2, k3⟩ := opA_call hB.look hA hop
                refine ⟨habs hA hF, ?_⟩
                rw [semAt_plain k3, k2]
                exact ⟨hF.depth hB n, hF.calls (kc e vs w (n - 1) _ hF.1 H k1 (fun e1 w1 hst => hQ e1 a w1 hst (hA.mono hst.le)))⟩
              · cases hj
            · rename_i lid args hop
              have rd_ : ∀ {e : Env G} {a : Act} {w : World} {F : Fence} {n : Nat} {Q : Exit → Act → World → Prop}, HR e h w → ActR e aa a → FOK F0 F rd e →
                  (∀ (vs : Array Value) (b x : Nat), VRs e args vs.toList → e.φ lid = some (b, x) → ∃ f tm as bd, (Instr.yield b vs).run P w = .ok (.round b f tm as bd) w ∧ RoundIn F0 (n - 1) P b f tm as bd w (fun
                    | .returned v, w'' => wpOpsIn F n P ops Q rest (a.put o.dst v) w''
                    | .panicked chain, w'' => Q (.panic chain) a w''
                    | .outgrown, _ => LetsOut Q)) → wpOpsIn F n P ops Q (i :: rest) a w := by
                intro e a w F n Q H hA hF kk
                simp only [wpOpsIn, ho, wantA_sound hA.tmps hw, if_true]
                obtain ⟨vs, b, o', hφ, k1, k2, k3⟩ := opA_round hA hop
                refine ⟨habs hA hF, ?_⟩
                rw [semAt_plain k3, k2]
                obtain ⟨f', tm, as, bd, y1, y2⟩ := kk vs b o' k1 hφ
                rw [y1]
                exact ⟨hF.depth hB n, hF.rounds y2⟩
              split at hj
              · rename_i v h1 hcall
                have k := hs _ _ hj
                have kc := hs _ _ hcall
                obtain ⟨x, aa', h', rfl⟩ := k.ops_res
                refine fun e a w F n Q H hA hF hQ => rd_ H hA hF (fun vs b o' k1 hφ => kc e vs w (n - 1) _ b o' hF.1 H k1 hφ (fun e1 v' w1 hst hv =>
                  k e1 _ w1 F n Q hst.hr ((hA.mono hst.le).put o.dst hv) (hF.mono hst.le) (fun e2 a2 w2 hst2 hA2 => hQ e2 a2 w2 (hst.trans hst2) hA2)))
              · rename_i ch h1 hcall
                cases hj
                have kc := hs _ _ hcall
                exact fun e a w F n Q H hA hF hQ => rd_ H hA hF (fun vs b o' k1 hφ => kc e vs w (n - 1) _ b o' hF.1 H k1 hφ (fun e1 w1 hst => hQ e1 a w1 hst (hA.mono hst.le)))
              · cases hj
            · rename_i d hop
              split at hj
              · have k := hs _ _ hj
                obtain ⟨x, aa', h', rfl⟩ := k.ops_res
                refine fun e a w F n Q H hA hF hQ => ?_
                simp only [wpOpsIn, ho, wantA_sound hA.tmps hw, if_true]
                obtain ⟨d', k1, k2⟩ := opA_dfr hA.tmps hop
                refine ⟨habs hA hF, ?_⟩
                have hr : F.round = none := by rw [show F = F0 from hF.2]; exact hB.round
                have hsem : o.semAt F.round a.eval = execOp a.eval o := by rw [hr]; rfl
                rw [hsem, k2]
                exact k e _ w F n Q H (ActR.put (aa := { aa with defers := d :: aa.defers }) (a := { a with defers := d' :: a.defers }) ⟨hA.tmps, by simp only [DefsR]; exact ⟨d', _, rfl, k1, hA.defers⟩⟩ o.dst VR_undef) hF hQ
              · cases hj
            · rename_i v hop
              cases hj
              refine fun e a w F n Q H hA hF hQ => ?_
              simp only [wpOpsIn, ho, wantA_sound hA.tmps hw, if_true]
              obtain ⟨k1, k2⟩ := opA_pan hA.tmps hop
              refine ⟨habs hA hF, ?_⟩
              rw [semAt_plain k2, k1]
              exact hQ e a w (St.refl H) hA
            · cases hj
          · rename_i hw
            have k := hs _ _ hj
            obtain ⟨x, aa', h', rfl⟩ := k.ops_res
            refine fun e a w F n Q H hA hF hQ => ?_
            simp only [wpOpsIn, ho, wantA_sound hA.tmps hw, Bool.false_eq_true, if_false]
            exact ⟨fun f hf => hF.fn hB (aboutA_sound hB.look hA.tmps hab hf), k e _ w F n Q H (hA.put o.dst VR_undef) hF hQ⟩
          · cases hj
  | call f args h =>
    simp only [stepJ] at hj
    split at hj
    · rename_i fn c hfc
      obtain ⟨hfn, hc, _⟩ := hB.look _ _ _ hfc
      have hF : F0.fn f := hB.fn f (by rw [hfn]; rfl)
      · split at hj
        · rename_i x a1 h1 hcode
          have k := hs _ _ hcode
          split at hj
          · rename_i u hu
            -- the body, and what it leaves behind
            have body : ∀ (R : Ending → World → Prop) (e : Env G) (vs : Array Value) (w : World) (n : Nat), e.fnok = F0.fn → HR e h w → VRs e args vs.toList →
                (∀ e1 (a' : Act) w1, St e h w e1 h1 w1 → ActR e1 a1 a' → LeavesInM F0 n P fn a'.tmps R a'.defers u w1) → CallsIn F0 n P f vs w R := by
              intro R e vs w n hE H hv hl
              refine callsIn_of_wp_marks hfn hc hF ?_ hB.round
              refine k e _ w _ n _ H ⟨ofT_sound _ hv, rfl⟩ (.none hE) (fun e1 a1' w1 hst hA1 => ?_)
              have := hl e1 a1' w1 hst hA1
              cases x <;> simp only [modeOf] at hu <;> first
                | (cases hu; done)
                | (cases Option.some.inj hu; exact this)
            have hrun : u ≠ .run := by cases x <;> simp only [modeOf] at hu <;> first | (cases hu; done) | (cases Option.some.inj hu; simp)
            unfold outA at hj
            split at hj
            · rename_i h2 hlv
              split at hj
              · rename_i vs hvs
                cases hj
                intro e us w n R hE H hv hR
                refine body R e us w n hE H hv (fun e1 a1' w1 hst hA1 => ?_)
                refine leaveA_sound hB hs hlv hrun (hst.le.fnok.trans hE) hst.hr hA1.defers (fun e2 w2 hst2 _ => ?_)
                obtain ⟨v', k1, k2⟩ := results_sound (P := P) hst2.hr (hA1.tmps.mono hst2.le) hvs
                exact ⟨v', k2, hR e2 v' w2 (hst.trans hst2) k1⟩
              · cases hj
            · rename_i chain h2 hlv
              cases hj
              intro e us w n R hE H hv hR
              refine body R e us w n hE H hv (fun e1 a1' w1 hst hA1 => ?_)
              refine leaveA_sound hB hs hlv hrun (hst.le.fnok.trans hE) hst.hr hA1.defers (fun e2 w2 hst2 _ => ?_)
              exact hR e2 w2 (hst.trans hst2)
            · cases hj
          · cases hj
        · cases hj
    · cases hj
  | round id args h => exact round_sound hB hs hj

/-- The evaluator: so many levels deep. -/
def ev (P : Program) (L : Look) (rp : Bool) (draw : ((Job G) → Option (Res G)) → Option Nat → Array Oper → (AAct G) → (AH G) → Option (Res G)) (n : Nat) : (Job G) → Option (Res G) :=
  Nat.rec (fun _ => none) (fun _ self => stepJ P L rp draw self) n

theorem ev_sound {draw : ((Job G) → Option (Res G)) → Option Nat → Array Oper → (AAct G) → (AH G) → Option (Res G)} (hB : FB P L F0 rp) (hd : DrawOK P F0 draw) : ∀ n, SelfOK P F0 (ev P L rp draw n)
  | 0 => fun _ _ h => by cases h
  | n + 1 => stepJ_sound hd hB (ev_sound hB hd n)
end
end Go.Ev
end

