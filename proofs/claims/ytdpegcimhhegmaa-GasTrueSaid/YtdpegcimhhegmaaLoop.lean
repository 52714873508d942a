import Derived.Test.YtdpegcimhhegmaaEvE
set_option linter.unusedVariables false
set_option linter.unusedSimpArgs false
set_option linter.unusedSectionVars false
noncomputable section
namespace Go.Ev
open Go.RowKit
variable {G : Ctx}

/-! ### What a piece of code leaves in its temporaries: what is told, and of the rest the shape -/
mutual
def wid : AV G → Nat
  | .agg cs => wids cs
  | .tuple cs => wids cs
  | _ => 1
def wids : List (AV G) → Nat
  | [] => 0
  | a :: r => wid a + wids r
end
mutual
def shp : AV G → Nat → AV plain
  | .agg cs, n => .agg (shps cs n)
  | .tuple cs, n => .tuple (shps cs n)
  | _, n => .opq n
def shps : List (AV G) → Nat → List (AV plain)
  | [], _ => []
  | a :: r, n => shp a n :: shps r (n + wid a)
end
/-- Leaves that stand in a row of names. -/
def Leaves (l : List Value) (e : Env plain) (n : Nat) : Prop := ∀ i x, l[i]? = some x → e.opq (n + i) = x
theorem Leaves.left {l r : List Value} {e : Env plain} {n : Nat} (h : Leaves (l ++ r) e n) : Leaves l e n := fun i x hx => h i x (by
  have : i < l.length := (List.getElem?_eq_some_iff.1 hx).1
  rw [List.getElem?_append_left this]; exact hx)
theorem Leaves.right {l r : List Value} {e : Env plain} {n m : Nat} (hm : l.length = m) (h : Leaves (l ++ r) e n) : Leaves r e (n + m) := fun i x hx => by
  subst hm
  rw [Nat.add_assoc]
  exact h (l.length + i) x (by rw [List.getElem?_append_right (by omega)]; simpa using hx)
def ShapeV (e : Env G) (a : AV G) (v : Value) : Prop := ∃ l : List Value, l.length = wid a ∧ (∀ x ∈ l, x.oneCell' = true) ∧ ∀ (e2 : Env plain) (n : Nat), Leaves l e2 n → VR e2 (shp a n) v
def ShapeVs (e : Env G) (a : List (AV G)) (vs : List Value) : Prop := ∃ l : List Value, l.length = wids a ∧ (∀ x ∈ l, x.oneCell' = true) ∧ ∀ (e2 : Env plain) (n : Nat), Leaves l e2 n → VRs e2 (shps a n) vs
theorem shape_leaf {e : Env G} {a : AV G} {v : Value} (h1 : a.one = true) (h2 : wid a = 1) (h3 : ∀ n, shp a n = .opq n) (h : VR e a v) : ShapeV e a v :=
  ⟨[v], h2.symm, fun x hx => by rw [List.mem_singleton.1 hx]; exact one_sound h1 h, fun e2 n hl => by rw [h3]; simp only [VR]; exact (hl 0 v rfl).symm⟩
mutual
theorem shp_vr {e : Env G} : ∀ (a : AV G) (v : Value), VR e a v → ShapeV e a v
  | .agg cs, v, h => by
    obtain ⟨xs, rfl, hx⟩ := h.agg
    obtain ⟨l, h1, h2, h3⟩ := shps_vr cs _ hx
    exact ⟨l, by simpa only [wid] using h1, h2, fun e2 n hl => by simp only [shp, VR]; exact ⟨xs, rfl, h3 e2 n hl⟩⟩
  | .tuple cs, v, h => by
    obtain ⟨xs, rfl, hx⟩ := h.tuple
    obtain ⟨l, h1, h2, h3⟩ := shps_vr cs _ hx
    exact ⟨l, by simpa only [wid] using h1, h2, fun e2 n hl => by simp only [shp, VR]; exact ⟨xs, rfl, h3 e2 n hl⟩⟩
  | .bool _, _, h => shape_leaf rfl (by simp only [wid]) (fun _ => by simp only [shp]) h
  | .int _ _, _, h => shape_leaf rfl (by simp only [wid]) (fun _ => by simp only [shp]) h
  | .str _, _, h => shape_leaf rfl (by simp only [wid]) (fun _ => by simp only [shp]) h
  | .ptr _ _, _, h => shape_leaf rfl (by simp only [wid]) (fun _ => by simp only [shp]) h
  | .nilp, _, h => shape_leaf rfl (by simp only [wid]) (fun _ => by simp only [shp]) h
  | .slice _ _ _ _ _, _, h => shape_leaf rfl (by simp only [wid]) (fun _ => by simp only [shp]) h
  | .nils, _, h => shape_leaf rfl (by simp only [wid]) (fun _ => by simp only [shp]) h
  | .map _, _, h => shape_leaf rfl (by simp only [wid]) (fun _ => by simp only [shp]) h
  | .nilm, _, h => shape_leaf rfl (by simp only [wid]) (fun _ => by simp only [shp]) h
  | .func _ _ _, _, h => shape_leaf rfl (by simp only [wid]) (fun _ => by simp only [shp]) h
  | .yield _, _, h => shape_leaf rfl (by simp only [wid]) (fun _ => by simp only [shp]) h
  | .nilf, _, h => shape_leaf rfl (by simp only [wid]) (fun _ => by simp only [shp]) h
  | .iface _ _, _, h => shape_leaf rfl (by simp only [wid]) (fun _ => by simp only [shp]) h
  | .nili, _, h => shape_leaf rfl (by simp only [wid]) (fun _ => by simp only [shp]) h
  | .opq _, _, h => shape_leaf rfl (by simp only [wid]) (fun _ => by simp only [shp]) h
  | .sx _ _ _, _, h => shape_leaf rfl (by simp only [wid]) (fun _ => by simp only [shp]) h
theorem shps_vr {e : Env G} : ∀ (a : List (AV G)) (vs : List Value), VRs e a vs → ShapeVs e a vs
  | [], vs, h => by
    simp only [VRs] at h; subst h
    exact ⟨[], by simp only [wids, List.length_nil], by simp, fun e2 n _ => by simp only [shps, VRs]⟩
  | a :: r, vs, h => by
    simp only [VRs] at h
    obtain ⟨v, vs', rfl, h1, h2⟩ := h
    obtain ⟨l, k1, k2, k3⟩ := shp_vr a v h1
    obtain ⟨m, j1, j2, j3⟩ := shps_vr r vs' h2
    refine ⟨l ++ m, by simp only [wids, List.length_append, k1, j1], fun x hx => (List.mem_append.1 hx).elim (k2 x) (j2 x), fun e2 n hl => ?_⟩
    simp only [shps, VRs]
    exact ⟨v, vs', rfl, k3 e2 n hl.left, j3 e2 (n + wid a) (hl.right k1)⟩
end

/-- The next frame: of the slots that are told (`some b`: it is b, in the world that the caller says), and of the others the shape. -/
def nextL : List (AV G) → List (Option (AV plain)) → Nat → List (AV plain)
  | a :: r, none :: s, n => shp a n :: nextL r s (n + wid a)
  | a :: r, some b :: s, n => b :: nextL r s (n + wid a)
  | _, _, _ => []
theorem nextL_vr {e : Env G} : ∀ (A : List (AV G)) (S : List (Option (AV plain))) (vs : List Value), A.length = S.length → VRs e A vs →
    ∃ l : List Value, (∀ x ∈ l, x.oneCell' = true) ∧ ∀ (e2 : Env plain) (n : Nat), Leaves l e2 n → (∀ (i : Nat) (b : AV plain) (v : Value), S[i]? = some (some b) → vs[i]? = some v → VR e2 b v) → VRs e2 (nextL A S n) vs
  | [], [], vs, _, h => by
    simp only [VRs] at h; subst h
    exact ⟨[], by simp, fun e2 n _ _ => by simp only [nextL, VRs]⟩
  | [], _ :: _, _, h, _ => by simp at h
  | _ :: _, [], _, h, _ => by simp at h
  | a :: r, s :: S, vs, hl, h => by
    simp only [VRs] at h
    obtain ⟨v, vs', rfl, h1, h2⟩ := h
    obtain ⟨l, k1, k2, k3⟩ := shp_vr a v h1
    obtain ⟨m, j2, j3⟩ := nextL_vr r S vs' (by simpa using hl) h2
    refine ⟨l ++ m, fun x hx => (List.mem_append.1 hx).elim (k2 x) (j2 x), fun e2 n hL hS => ?_⟩
    have rest := j3 e2 (n + wid a) (hL.right k1) (fun i b v h3 h4 => hS (i + 1) b v (by simpa using h3) (by simpa using h4))
    cases s with
    | none => simp only [nextL, VRs]; exact ⟨v, vs', rfl, k3 e2 n hL.left, rest⟩
    | some b => simp only [nextL, VRs]; exact ⟨v, vs', rfl, hS 0 b v (by simp) (by simp), rest⟩

def listT (x : TT G) : Nat → Nat → List (AV G)
  | 0, _ => []
  | n + 1, i => getT x i :: listT x n (i + 1)
theorem listT_len (x : TT G) : ∀ n i, (listT x n i).length = n
  | 0, _ => rfl
  | n + 1, i => by simp only [listT, List.length_cons, listT_len x n (i + 1)]
theorem listT_vr {e : Env G} {x : TT G} : ∀ (vs : List Value) (i : Nat), (∀ j v, vs[j]? = some v → VR e (getT x (i + j)) v) → VRs e (listT x vs.length i) vs
  | [], _, _ => by simp only [List.length_nil, listT, VRs]
  | v :: vs, i, h => by
    simp only [List.length_cons, listT, VRs]
    refine ⟨v, vs, rfl, by simpa using h 0 v rfl, listT_vr vs (i + 1) fun j u hj => ?_⟩
    have := h (j + 1) u (by simpa using hj)
    rwa [show i + (j + 1) = i + 1 + j by omega] at this

theorem AV.tos_at {G' : Ctx} : ∀ (l : List (AV G)) (i : Nat), (AV.tos G' l)[i]? = (l[i]?).map (AV.to G')
  | [], i => by simp [AV.tos]
  | b :: l, 0 => by simp [AV.tos]
  | b :: l, i + 1 => by simp only [AV.tos, List.getElem?_cons_succ]; exact AV.tos_at l i
/-! ### A piece of code -/
/-- The world that names and places make. -/
def envP (o : Nat → Value) (h1 : ∀ k, (o k).oneCell' = true) (ps : List Plc) : Env plain := { φ := fun i => (ps[i]?).map fun p => (p.b, p.o), opq := o, base := 0, room := fun i => ((ps[i]?).map (·.room)).getD 0, fnok := fun _ => True, one := h1, holds := plain_holds _ }
/-- The rows lie there. -/
def Placed (w : World) (e : Env plain) (ps : List Plc) (rows : List (List (AV plain))) : Prop :=
  ps.length = rows.length ∧ ∀ (i : Nat) (c : List (AV plain)) (p : Plc), rows[i]? = some c → ps[i]? = some p → p.b < w.heap.size ∧ ∀ (j : Nat) (a : AV plain), c[j]? = some a → ∃ v, w.cell? ⟨p.b, p.o + j, none⟩ = some v ∧ VR e a v

def rowOk (h : AH G) (x : Nat × List (AV plain)) : Bool :=
  match h.objs.get x.1 with
  | some (.cells us _) => samesA us (AV.tos G x.2)
  | _ => false
def rowsOk (h : AH G) : List (Nat × List (AV plain)) → Bool
  | [] => true
  | x :: r => rowOk h x && rowsOk h r
theorem rowsOk_mem {h : AH G} : ∀ {l : List (Nat × List (AV plain))} {x}, rowsOk h l = true → x ∈ l → rowOk h x = true
  | [], _, _, hx => by cases hx
  | y :: r, x, hs, hx => by
    simp only [rowsOk, Bool.and_eq_true] at hs
    rcases List.mem_cons.1 hx with rfl | hx
    · exact hs.1
    · exact rowsOk_mem hs.2 hx
/-- A slot that is told holds what is told. -/
def keptOk (x : TT G) : List (Nat × AV plain) → Bool
  | [] => true
  | y :: r => sameA (getT x y.1) (y.2.to G) && keptOk x r
theorem keptOk_mem {x : TT G} : ∀ {l : List (Nat × AV plain)} {y}, keptOk x l = true → y ∈ l → getT x y.1 = y.2.to G
  | [], _, _, hy => by cases hy
  | z :: r, y, hs, hy => by
    simp only [keptOk, Bool.and_eq_true] at hs
    rcases List.mem_cons.1 hy with rfl | hy
    · exact sameA_eq hs.1
    · exact keptOk_mem hs.2 hy
def pieceOk (nt : Nat) (x : Exit) (ks : List (Nat × AV plain)) (S : List (Option (AV plain))) (B : List (AV plain)) (N : Nat) (ex : List (Nat × List (AV plain))) : Option (Res G) → Bool
  | some (.at_ y a h) =>
    (match a.defers with | [] => true | _ => false) && (match x, y with | .normal, .normal => true | .ret, .ret => true | .exit i, .exit j => Nat.beq i j | _, _ => false) && Nat.beq a.tmps.n nt && Nat.beq S.length nt && keptOk a.tmps ks && samesA (nextL (listT a.tmps nt 0) S N) B && rowsOk h ex
  | _ => false
/-- What a piece leaves. -/
structure Left (o : Nat → Value) (w w' : World) (a' : Act) (nt : Nat) (ks : List (Nat × AV plain)) (S : List (Option (AV plain))) (B : List (AV plain)) (N : Nat) (ex : List (Nat × List (AV plain))) : Prop where
  below : Below w.heap.size w w'
  defers : a'.defers = []
  size : a'.tmps.size = nt
  told : ∃ e : Env plain, e.opq = o ∧ (∀ y ∈ ks, ∀ v, a'.tmps[y.1]? = some v → VR e y.2 v) ∧
    (∀ x ∈ ex, ∃ b f, e.φ x.1 = some (b, f) ∧ b < w'.heap.size ∧ ∀ (j : Nat) (c : AV plain), x.2[j]? = some c → ∃ v, w'.cell? ⟨b, f + j, none⟩ = some v ∧ VR e c v)
  rest : ∃ l : List Value, (∀ x ∈ l, x.oneCell' = true) ∧ ∀ e2 : Env plain, Leaves l e2 N → (∀ (i : Nat) (b : AV plain) (v : Value), S[i]? = some (some b) → a'.tmps[i]? = some v → VR e2 b v) → VRs e2 B a'.tmps.toList

theorem left_of {P : Program} {e : Env G} {h : AH G} {w : World} {nt : Nat} {x : Exit} {ks : List (Nat × AV plain)} {S : List (Option (AV plain))} {B : List (AV plain)} {N : Nat} {ex : List (Nat × List (AV plain))}
    {y : Exit} {a1 : AAct G} {hh : AH G} (hr : pieceOk nt x ks S B N ex (some (.at_ y a1 hh)) = true) (HE : HR e h w) (hbase : e.base = w.heap.size) :
    y = x ∧ ∀ e' a' w', St e h w e' hh w' → ActR e' a1 a' → Left e.opq w w' a' nt ks S B N ex := by
  simp only [pieceOk, Bool.and_eq_true] at hr
  obtain ⟨⟨⟨⟨⟨⟨q1, q2⟩, q3⟩, q4⟩, q5⟩, q6⟩, q7⟩ := hr
  refine ⟨?_, fun e' a' w' St' hA' => ?_⟩
  · split at q2
    · rfl
    · rfl
    · rename_i i j; rw [Nat.eq_of_beq_eq_true q2]
    · cases q2
  have hn := Nat.eq_of_beq_eq_true q3
  have hsz' : a'.tmps.size = nt := hA'.tmps.size.trans hn
  let e2 : Env plain := ⟨e'.φ, e'.opq, e'.base, e'.room, fun _ => True, e'.one, plain_holds _⟩
  have al2 : e2.alike e' := ⟨rfl, rfl, rfl⟩
  have ho2 : e2.opq = e.opq := St'.le.opq
  have hdef : a'.defers = [] := by
    have := hA'.defers
    split at q1
    · rename_i hd0; rw [hd0] at this; exact this
    · cases q1
  refine ⟨by rw [← hbase]; exact St'.below HE, hdef, hsz', ⟨e2, ho2, fun y hy v hv => ?_, fun x hx => ?_⟩, ?_⟩
  · have := hA'.tmps.get y.1 v hv
    rw [keptOk_mem q5 hy] at this
    exact (VR.to al2 _ v).2 this
  · have hrow := rowsOk_mem q7 hx
    unfold rowOk at hrow
    split at hrow
    · rename_i us g hob
      have hus := samesA_eq hrow
      subst hus
      have hO := St'.hr.obj _ _ hob
      cases g with
      | some g =>
        obtain ⟨b, k1, k2, cc, t, k3, k4, k5⟩ := hO
        refine ⟨b, 0, k1, (Array.getElem?_eq_some_iff.1 k3).1, fun j c0 hc0 => ?_⟩
        obtain ⟨v, hv1, hv2⟩ := k5 j (c0.to G) (by rw [AV.tos_at, hc0]; rfl)
        exact ⟨v, by simp only [World.cell?, k3, Nat.zero_add]; exact hv1, (VR.to al2 c0 v).2 hv2⟩
      | none =>
        obtain ⟨b, f, k1, k2, k3⟩ := hO
        refine ⟨b, f, k1, Nat.lt_of_lt_of_le k2 St'.hr.base, fun j c0 hc0 => ?_⟩
        obtain ⟨v, hv1, hv2⟩ := k3 j (c0.to G) (by rw [AV.tos_at, hc0]; rfl)
        exact ⟨v, hv1, (VR.to al2 c0 v).2 hv2⟩
    · cases hrow
  · have hl := listT_vr (e := e') (x := a1.tmps) a'.tmps.toList 0 (fun j v hj => by rw [Nat.zero_add]; exact hA'.tmps.get j v (by simpa using hj))
    rw [show a'.tmps.toList.length = nt by simpa using hsz'] at hl
    obtain ⟨l, l1, l2⟩ := nextL_vr (listT a1.tmps nt 0) S _ (by rw [listT_len]; exact (Nat.eq_of_beq_eq_true q4).symm) hl
    exact ⟨l, l1, fun e3 h3 h4 => by rw [← samesA_eq q6]; exact l2 e3 N h3 (fun i b v hi hv => h4 i b v hi (by simpa using hv))⟩

/-- The world of a piece. -/
theorem start_of {F0 : Fence} {A : List (AV plain)} {rows : List (List (AV plain))} {nt : Nat} (hA : A.length = nt) (o : Nat → Value) (h1 : ∀ k, (o k).oneCell' = true) (ho : G.holds o) (ps : List Plc) (a : Act) (w : World)
    (hp : Placed w (envP o h1 ps) ps rows) (hv : VRs (envP o h1 ps) A a.tmps.toList) (hd : a.defers = []) :
    HR (frnEnv F0 o h1 ho ps w.heap.size) (frnH (rows.map (AV.tos G))) w ∧ ActR (frnEnv F0 o h1 ho ps w.heap.size) { tmps := ofT (AV.tos G A) nt, defers := [] } a := by
  let e : Env G := frnEnv F0 o h1 ho ps w.heap.size
  have al : (envP o h1 ps).alike e := ⟨rfl, rfl, rfl⟩
  have HE : HR e (frnH (rows.map (AV.tos G))) w := HR.frn _ _ (by rw [List.length_map]; exact hp.1) (fun i cc p hc hpp => by
    simp only [List.getElem?_map, Option.map_eq_some_iff] at hc
    obtain ⟨c0, hc0, rfl⟩ := hc
    obtain ⟨k1, k2⟩ := hp.2 i c0 p hc0 hpp
    refine ⟨k1, fun j b hb => ?_⟩
    obtain ⟨b0, hb0, rfl⟩ := AV.tos_get hb
    obtain ⟨v, hv1, hv2⟩ := k2 j b0 hb0
    exact ⟨v, hv1, (VR.to al b0 v).1 hv2⟩)
  have hsz : a.tmps.size = nt := by have := hv.length; simpa [hA] using this
  refine ⟨HE, ?_, hd⟩
  have := ofT_sound nt ((VRs.to al A _).1 hv)
  rwa [hsz, Nat.sub_self, show Array.replicate 0 undef = #[] from rfl, Array.append_empty] at this

/-- A piece that was run: one code, or one behind another. -/
def run1 (P : Program) (L : Look) (rp : Bool) (T : List KC) (S' : List KP) (G : Ctx) (A : List (AV plain)) (nt : Nat) (rows : List (List (AV plain))) (c : Code) : Option (Res G) :=
  evK P L rp (ora G T S') (drawA P L) fuelK (.code none c { tmps := ofT (AV.tos G A) nt, defers := [] } (frnH (rows.map (AV.tos G))))
def run2 (P : Program) (L : Look) (rp : Bool) (T : List KC) (S' : List KP) (G : Ctx) (c : Code) : Option (Res G) → Option (Res G)
  | some (.at_ .normal a h) => evK P L rp (ora G T S') (drawA P L) fuelK (.code none c a h)
  | _ => none
section
variable {P : Program} {L : Look} {F0 : Fence} {rp : Bool} {H : (Nat → Value) → Prop} {T : List KC} {S' : List KP} {c d : Code} {A : List (AV plain)} {rows : List (List (AV plain))}
    {nt : Nat} {x : Exit} {ks : List (Nat × AV plain)} {S : List (Option (AV plain))} {B : List (AV plain)} {N : Nat} {ex : List (Nat × List (AV plain))}
theorem piece_ok (hB : FB P L F0 rp)
    (hT : ∀ k ∈ T, k.free = true ∧ Con P F0 H k) (hS : ∀ p ∈ S', p.k.res.free = true ∧ Con P F0 p.ctx.holds p.k) (hG : ∀ o, G.holds o → H o) (hA : A.length = nt)
    (hr : pieceOk nt x ks S B N ex (run1 P L rp T S' G A nt rows c) = true)
    (o : Nat → Value) (h1 : ∀ k, (o k).oneCell' = true) (ho : G.holds o) (ps : List Plc) (a : Act) (w : World) (n : Nat) (Q : Exit → Act → World → Prop)
    (hp : Placed w (envP o h1 ps) ps rows) (hv : VRs (envP o h1 ps) A a.tmps.toList) (hd : a.defers = [])
    (hQ : ∀ a' w', Left o w w' a' nt ks S B N ex → Q x a' w') : c.wpIn F0 n P Q a w := by
  have hs : SelfOK (G := G) P F0 (evK P L rp (ora G T S') (drawA P L) fuelK) := evK_sound hB (ora_ok hG hT hS) fuelK
  obtain ⟨HE, HA⟩ := start_of (F0 := F0) hA o h1 ho ps a w hp hv hd
  cases hev : run1 P L rp T S' G A nt rows c with
  | none => rw [hev] at hr; cases hr
  | some r =>
    rw [hev] at hr
    cases r with
    | at_ y a1 hh =>
      obtain ⟨rfl, hl⟩ := left_of (P := P) hr HE rfl
      exact hs _ _ hev _ a w F0 n Q HE HA ⟨rfl, rfl⟩ (fun e' a' w' St' hA' => hQ a' w' (hl e' a' w' St' hA'))
    | ret _ _ => cases hr
    | pan _ _ => cases hr
theorem piece_ok2 (hB : FB P L F0 rp)
    (hT : ∀ k ∈ T, k.free = true ∧ Con P F0 H k) (hS : ∀ p ∈ S', p.k.res.free = true ∧ Con P F0 p.ctx.holds p.k) (hG : ∀ o, G.holds o → H o) (hA : A.length = nt)
    (hr : pieceOk nt x ks S B N ex (run2 P L rp T S' G d (run1 P L rp T S' G A nt rows c)) = true)
    (o : Nat → Value) (h1 : ∀ k, (o k).oneCell' = true) (ho : G.holds o) (ps : List Plc) (a : Act) (w : World) (n : Nat) (Q : Exit → Act → World → Prop) (Q0 : Exit → Act → World → Prop)
    (hp : Placed w (envP o h1 ps) ps rows) (hv : VRs (envP o h1 ps) A a.tmps.toList) (hd : a.defers = [])
    (hQ : ∀ a' w', Left o w w' a' nt ks S B N ex → Q x a' w') : c.wpIn F0 n P (Exit.then (d.wpIn F0 n P Q) Q0) a w := by
  have hs : SelfOK (G := G) P F0 (evK P L rp (ora G T S') (drawA P L) fuelK) := evK_sound hB (ora_ok hG hT hS) fuelK
  obtain ⟨HE, HA⟩ := start_of (F0 := F0) hA o h1 ho ps a w hp hv hd
  cases hev : run1 P L rp T S' G A nt rows c with
  | none => rw [hev] at hr; cases hr
  | some r =>
    rw [hev] at hr
    cases r with
    | at_ z a0 h0 =>
      cases z with
      | normal =>
        cases hev2 : evK P L rp (ora G T S') (drawA P L) fuelK (.code none d a0 h0) with
        | none => simp only [run2, hev2] at hr; cases hr
        | some r2 =>
          simp only [run2, hev2] at hr
          cases r2 with
          | at_ y a1 hh =>
            obtain ⟨rfl, hl⟩ := left_of (P := P) hr HE rfl
            refine hs _ _ hev _ a w F0 n _ HE HA ⟨rfl, rfl⟩ (fun e1 b1 w1 St1 hA1 => ?_)
            exact hs _ _ hev2 e1 b1 w1 F0 n Q St1.hr hA1 ⟨St1.le.fnok, rfl⟩ (fun e' a' w' St' hA' => hQ a' w' (hl e' a' w' (St1.trans St') hA'))
          | ret _ _ => cases hr
          | pan _ _ => cases hr
      | _ => cases hr
    | ret _ _ => cases hr
    | pan _ _ => cases hr
end

/-! ### A function of one loop -/
section
variable {P : Program} {F0 : Fence}
theorem fn_loop {f : FuncId} {fn : Func} {c0 c1 b rest : Code} {i : Nat} {args : Array Value} {w : World} {n : Nat} {R : Ending → World → Prop}
    (hf : P.funcs[f]? = some fn) (hb : fn.body = some (.seq c0 (.seq (.seq c1 (.block i (.loop b))) rest))) (hF : F0.fn f) (hro : F0.round = none)
    (I : Act → World → Prop) (μ : Act → World → Nat) (J D : Act → World → Prop)
    (hpre : ∀ Q, (∀ a w', I a w' → Q .normal a w') → ∀ Q0, c0.wpIn F0 n P (Exit.then (c1.wpIn F0 n P Q) Q0) { tmps := args ++ Array.replicate (fn.ntmps - args.size) undef, defers := [] } w)
    (hround : ∀ a w, I a w → b.wpIn F0 n P (fun x a' w' => (x = .normal ∧ I a' w' ∧ μ a' w' < μ a w) ∨ (x = .exit i ∧ J a' w') ∨ (x = .ret ∧ D a' w')) a w)
    (hrest : ∀ a w, J a w → rest.wpIn F0 n P (fun x a' w' => x = .ret ∧ D a' w') a w)
    (hD : ∀ a w, D a w → a.defers = [] ∧ ∃ v, (results fn a.tmps).run P w = .ok v w ∧ R (.returned v) w) : CallsIn F0 n P f args w R := by
  have hret : ∀ a w, D a w → bodyPost P fn R .ret a w := fun a w h => by
    obtain ⟨h1, v, h2, h3⟩ := hD a w h
    exact bodyPost_ret h2 h1 h3
  refine callsIn_of_wp hf hb hF ?_ hro
  refine wpIn_seq ?_
  -- the loop, and what is behind it
  let Q1 : Exit → Act → World → Prop := Exit.then ((Code.block i (.loop b)).wpIn F0 n P (Exit.then (rest.wpIn F0 n P (bodyPost P fn R)) (bodyPost P fn R))) (Exit.then (rest.wpIn F0 n P (bodyPost P fn R)) (bodyPost P fn R))
  have key : ∀ a w', I a w' → (Code.block i (.loop b)).wpIn F0 n P (Exit.then (rest.wpIn F0 n P (bodyPost P fn R)) (bodyPost P fn R)) a w' := fun a w' hI => by
    refine wpIn_block (wpIn_loop I μ hI fun a w hI => ?_)
    refine wpIn_mono (hround a w hI) (fun x a' w' hx => ?_)
    rcases hx with ⟨rfl, h1, h2⟩ | ⟨rfl, h1⟩ | ⟨rfl, h1⟩
    · exact ⟨h1, h2⟩
    · show (if i = i then _ else _)
      rw [if_pos rfl]
      refine wpIn_mono (hrest a' w' h1) (fun x a' w' hx => ?_)
      obtain ⟨rfl, h2⟩ := hx
      exact hret _ _ h2
    · exact hret _ _ h1
  refine wpIn_mono (hpre Q1 key (bodyPost P fn R)) (fun x a' w' hx => ?_)
  cases x with
  | normal => exact wpIn_seq (wpIn_seq hx)
  | _ => exact hx
end
end Go.Ev
end

noncomputable section
namespace Go.Ev
open Go.RowKit

/-! ### What lies in few places and hangs on few names -/
def sxLt (n : Nat) : SX → Bool
  | .c _ => true
  | .v i => Nat.blt i n
  | .bin _ x y => sxLt n x && sxLt n y
mutual
def fits (m n : Nat) : AV plain → Bool
  | .bool _ | .int _ _ | .str _ | .nilp | .nils | .nilm | .nilf | .nili => true
  | .ptr i _ => Nat.blt i m
  | .func _ f c => fitsL m n f && fitsL m n c
  | .agg cs => fitsL m n cs
  | .tuple cs => fitsL m n cs
  | .sx x _ _ => sxLt n x
  | _ => false
def fitsL (m n : Nat) : List (AV plain) → Bool
  | [] => true
  | a :: r => fits m n a && fitsL m n r
end
theorem sxLt_eval {n : Nat} {o o' : Nat → Value} (h : ∀ j, j < n → o j = o' j) : ∀ x : SX, sxLt n x = true → x.eval o = x.eval o'
  | .c _, _ => rfl
  | .v i, hx => by
    simp only [sxLt, Nat.blt_eq] at hx
    simp only [SX.eval, h i hx]
  | .bin k x y, hx => by
    simp only [sxLt, Bool.and_eq_true] at hx
    simp only [SX.eval, sxLt_eval h x hx.1, sxLt_eval h y hx.2]
mutual
theorem VR.fits {e e2 : Env plain} {m n : Nat} (hφ : ∀ i, i < m → e.φ i = e2.φ i) (ho : ∀ j, j < n → e.opq j = e2.opq j) : ∀ (a : AV plain) (v : Value), Ev.fits m n a = true → VR e a v → VR e2 a v
  | .bool _, v, _, h => by simpa only [VR] using h
  | .int _ _, v, _, h => by simpa only [VR] using h
  | .str _, v, _, h => by simpa only [VR] using h
  | .nilp, v, _, h => by simpa only [VR] using h
  | .nils, v, _, h => by simpa only [VR] using h
  | .nilm, v, _, h => by simpa only [VR] using h
  | .nilf, v, _, h => by simpa only [VR] using h
  | .nili, v, _, h => by simpa only [VR] using h
  | .ptr i _, v, hf, h => by
    simp only [Ev.fits, Nat.blt_eq] at hf
    simp only [VR] at h ⊢
    rw [← hφ i hf]; exact h
  | .func _ f c, v, hf, h => by
    simp only [Ev.fits, Bool.and_eq_true] at hf
    simp only [VR] at h ⊢
    obtain ⟨f', c', h1, h2, h3⟩ := h
    exact ⟨f', c', h1, VRs.fits hφ ho f _ hf.1 h2, VRs.fits hφ ho c _ hf.2 h3⟩
  | .agg cs, v, hf, h => by
    simp only [Ev.fits] at hf
    simp only [VR] at h ⊢
    obtain ⟨xs, h1, h2⟩ := h
    exact ⟨xs, h1, VRs.fits hφ ho cs _ hf h2⟩
  | .tuple cs, v, hf, h => by
    simp only [Ev.fits] at hf
    simp only [VR] at h ⊢
    obtain ⟨xs, h1, h2⟩ := h
    exact ⟨xs, h1, VRs.fits hφ ho cs _ hf h2⟩
  | .sx x _ _, v, hf, h => by
    simp only [Ev.fits] at hf
    simp only [VR] at h ⊢
    rw [← sxLt_eval ho x hf]; exact h
  | .slice _ _ _ _ _, _, hf, _ => by simp [Ev.fits] at hf
  | .map _, _, hf, _ => by simp [Ev.fits] at hf
  | .yield _, _, hf, _ => by simp [Ev.fits] at hf
  | .iface _ _, _, hf, _ => by simp [Ev.fits] at hf
  | .opq _, _, hf, _ => by simp [Ev.fits] at hf
theorem VRs.fits {e e2 : Env plain} {m n : Nat} (hφ : ∀ i, i < m → e.φ i = e2.φ i) (ho : ∀ j, j < n → e.opq j = e2.opq j) : ∀ (a : List (AV plain)) (v : List Value), Ev.fitsL m n a = true → VRs e a v → VRs e2 a v
  | [], v, _, h => by simpa only [VRs] using h
  | a :: r, v, hf, h => by
    simp only [Ev.fitsL, Bool.and_eq_true] at hf
    simp only [VRs] at h ⊢
    obtain ⟨x, xs, h1, h2, h3⟩ := h
    exact ⟨x, xs, h1, VR.fits hφ ho a x hf.1 h2, VRs.fits hφ ho r xs hf.2 h3⟩
end
theorem fitsL_at {m n : Nat} : ∀ {l : List (AV plain)} {j : Nat} {a : AV plain}, fitsL m n l = true → l[j]? = some a → fits m n a = true
  | [], j, a, _, h => by simp at h
  | b :: r, 0, a, hf, h => by simp at h; subst h; simp only [fitsL, Bool.and_eq_true] at hf; exact hf.1
  | b :: r, j + 1, a, hf, h => by simp only [fitsL, Bool.and_eq_true] at hf; exact fitsL_at hf.2 (by simpa using h)

/-- Numbers, and behind them what was left in temporaries. -/
def mix (z : Nat → Int) (l : List Value) (i : Nat) : Value := if i < 100000 then .int .i64 (z i) else (l[i - 100000]?).getD (.bool false)
theorem mix_one (z : Nat → Int) {l : List Value} (h : ∀ x ∈ l, x.oneCell' = true) (i : Nat) : (mix z l i).oneCell' = true := by
  unfold mix
  split
  · rfl
  · cases hl : l[i - 100000]? with
    | none => rfl
    | some x => exact h x (List.mem_of_getElem? hl)
theorem mix_lo (z : Nat → Int) (l : List Value) {i : Nat} (h : i < 100000) : mix z l i = .int .i64 (z i) := if_pos h

/-- The frame and the rows, as the names say. -/
def Stand (z : Nat → Int) (F : List (AV plain)) (rows : List (List (AV plain))) (w0 : World) (a : Act) (w : World) : Prop :=
  ∃ (l : List Value) (hl : ∀ x ∈ l, x.oneCell' = true) (ps : List Plc),
    VRs (envP (mix z l) (mix_one z hl) ps) F a.tmps.toList ∧ Placed w (envP (mix z l) (mix_one z hl) ps) ps rows ∧ a.defers = [] ∧ Below w0.heap.size w0 w

/-- The rows, told with their places. -/
theorem places_of {e : Env plain} {w : World} : ∀ (rows : List (List (AV plain))) (j : Nat),
    (∀ i c, rows[i]? = some c → ∃ b f, e.φ (j + i) = some (b, f) ∧ b < w.heap.size ∧ ∀ (k : Nat) (a : AV plain), c[k]? = some a → ∃ v, w.cell? ⟨b, f + k, none⟩ = some v ∧ VR e a v) →
    ∃ ps : List Plc, ps.length = rows.length ∧ ∀ i c p, rows[i]? = some c → ps[i]? = some p → e.φ (j + i) = some (p.b, p.o) ∧ p.b < w.heap.size ∧ ∀ (k : Nat) (a : AV plain), c[k]? = some a → ∃ v, w.cell? ⟨p.b, p.o + k, none⟩ = some v ∧ VR e a v
  | [], j, _ => ⟨[], rfl, fun i c p h => by simp at h⟩
  | c :: r, j, h => by
    obtain ⟨b, f, h1, h2, h3⟩ := h 0 c rfl
    obtain ⟨ps, k1, k2⟩ := places_of r (j + 1) (fun i c hc => by have := h (i + 1) c (by simpa using hc); rwa [show j + (i + 1) = j + 1 + i by omega] at this)
    refine ⟨⟨b, f, 0⟩ :: ps, by simp [k1], fun i c' p hc hp => ?_⟩
    cases i with
    | zero => simp at hc hp; subst hc; subst hp; exact ⟨h1, h2, h3⟩
    | succ i =>
      have := k2 i c' p (by simpa using hc) (by simpa using hp)
      rwa [show j + 1 + i = j + (i + 1) by omega] at this

/-- Rows, each with its number. -/
def numbered : List (List (AV plain)) → Nat → List (Nat × List (AV plain))
  | [], _ => []
  | c :: r, j => (j, c) :: numbered r (j + 1)
theorem numbered_mem : ∀ {rows : List (List (AV plain))} {j i : Nat} {c : List (AV plain)}, rows[i]? = some c → (j + i, c) ∈ numbered rows j
  | [], j, i, c, h => by simp at h
  | d :: r, j, 0, c, h => by simp at h; subst h; simp [numbered]
  | d :: r, j, i + 1, c, h => by
    simp only [numbered, List.mem_cons]
    right
    have := numbered_mem (rows := r) (j := j + 1) (i := i) (c := c) (by simpa using h)
    rwa [show j + 1 + i = j + (i + 1) by omega] at this
def rowsFit (m n : Nat) : List (List (AV plain)) → Bool
  | [] => true
  | c :: r => fitsL m n c && rowsFit m n r
theorem rowsFit_at {m n : Nat} : ∀ {rows : List (List (AV plain))} {i : Nat} {c : List (AV plain)}, rowsFit m n rows = true → rows[i]? = some c → fitsL m n c = true
  | [], i, c, _, h => by simp at h
  | d :: r, 0, c, hf, h => by simp at h; subst h; simp only [rowsFit, Bool.and_eq_true] at hf; exact hf.1
  | d :: r, i + 1, c, hf, h => by simp only [rowsFit, Bool.and_eq_true] at hf; exact rowsFit_at hf.2 (by simpa using h)

/-- What a piece has left is what the next one begins with, under new names. n: the names below it stay. -/
theorem Left.stand {z z' : Nat → Int} {l : List Value} {w0 w w' : World} {a' : Act} {nt : Nat} {ks : List (Nat × AV plain)} {S : List (Option (AV plain))} {B : List (AV plain)} {rows : List (List (AV plain))} {n : Nat}
    (h : Left (mix z l) w w' a' nt ks S B 100000 (numbered rows 0)) (hw : Below w0.heap.size w0 w) (hn : n ≤ 100000) (hz : ∀ j, j < n → z j = z' j) (hrow : rowsFit rows.length n rows = true)
    (hk : ∀ (i : Nat) (b : AV plain), S[i]? = some (some b) → ((i, b) ∈ ks ∧ fits rows.length n b = true) ∨ ∀ v, a'.tmps[i]? = some v → ∀ e : Env plain, (∀ j, j < 100000 → e.opq j = .int .i64 (z' j)) → VR e b v) :
    Stand z' B rows w0 a' w' := by
  obtain ⟨e, ho, hks, hex⟩ := h.told
  obtain ⟨l', hl', hrest⟩ := h.rest
  obtain ⟨ps, p1, p2⟩ := places_of (e := e) (w := w') rows 0 (fun i c hc => hex _ (numbered_mem hc))
  have hφ : ∀ i, i < rows.length → e.φ i = (envP (mix z' l') (mix_one z' hl') ps).φ i := fun i hi => by
    have hp : ps[i]? = some ps[i] := List.getElem?_eq_getElem (by omega)
    have := (p2 i rows[i] ps[i] (List.getElem?_eq_getElem hi) hp).1
    rw [Nat.zero_add] at this
    rw [this]; simp [envP, hp]
  have hop : ∀ j, j < n → e.opq j = (envP (mix z' l') (mix_one z' hl') ps).opq j := fun j hj => by
    rw [ho]
    show mix z l j = mix z' l' j
    rw [mix_lo z l (by omega), mix_lo z' l' (by omega), hz j hj]
  refine ⟨l', hl', ps, ?_, ⟨p1, fun i c p hc hp => ?_⟩, h.defers, hw.trans (h.below.mono hw.size)⟩
  · refine hrest _ (fun i x hx => ?_) (fun i b v hS hv => ?_)
    · show mix z' l' (100000 + i) = x
      unfold mix
      rw [if_neg (by omega), show 100000 + i - 100000 = i by omega, hx]; rfl
    · rcases hk i b hS with ⟨h1, h2⟩ | h1
      · exact VR.fits hφ hop b v h2 (hks _ h1 v hv)
      · exact h1 v hv _ (fun j hj => mix_lo z' l' hj)
  · obtain ⟨_, k2, k3⟩ := p2 i c p hc hp
    refine ⟨k2, fun j a ha => ?_⟩
    obtain ⟨v, h1, h2⟩ := k3 j a ha
    exact ⟨v, h1, VR.fits hφ hop a v (fitsL_at (rowsFit_at hrow hc) ha) h2⟩
/-- A slot that is told. -/
theorem Left.slot {z : Nat → Int} {l : List Value} {w w' : World} {a' : Act} {nt : Nat} {ks : List (Nat × AV plain)} {S : List (Option (AV plain))} {B : List (AV plain)} {N : Nat} {ex : List (Nat × List (AV plain))}
    (h : Left (mix z l) w w' a' nt ks S B N ex) {i : Nat} {x : SX} {lo hi : Int} (hi : (i, AV.sx x lo hi) ∈ ks) (hlt : i < nt) (hx : sxLt 100000 x = true) :
    a'.tmps[i]? = some (.int .i64 (x.eval (fun j => .int .i64 (z j)))) := by
  obtain ⟨e, ho, hks, _⟩ := h.told
  have hs : i < a'.tmps.size := by rw [h.size]; exact hlt
  have hv : a'.tmps[i]? = some a'.tmps[i] := Array.getElem?_eq_getElem hs
  have := hks _ hi _ hv
  simp only [VR] at this
  rw [hv, this.1, ho, sxLt_eval (o := mix z l) (o' := fun j => .int .i64 (z j)) (fun j hj => mix_lo z l hj) x hx]
theorem results_t {P : Program} {fn : Func} {p : Tmp} (h : fn.results = #[.tmp p]) {tmps : Array Value} {v : Value} (hv : tmps[p]? = some v) (w : World) : (results fn tmps).run P w = .ok v w := by
  simp [results, h, hv, Sem.run_bind, Result.andThen]
/-- Slots that are told, of so many. -/
def slotAt : List (Nat × AV plain) → Nat → Option (AV plain)
  | [], _ => none
  | y :: r, i => cond (Nat.beq y.1 i) (some y.2) (slotAt r i)
def slotsFrom (K : List (Nat × AV plain)) : Nat → Nat → List (Option (AV plain))
  | 0, _ => []
  | n + 1, i => slotAt K i :: slotsFrom K n (i + 1)
theorem slotAt_mem : ∀ {K : List (Nat × AV plain)} {i : Nat} {b : AV plain}, slotAt K i = some b → (i, b) ∈ K
  | [], _, _, h => by cases h
  | y :: r, i, b, h => by
    unfold slotAt at h
    cases hy : Nat.beq y.1 i with
    | true => rw [hy] at h; cases h; have := Nat.eq_of_beq_eq_true hy; subst this; exact List.mem_cons_self ..
    | false => rw [hy] at h; exact List.mem_cons_of_mem _ (slotAt_mem h)
theorem slotsFrom_mem {K : List (Nat × AV plain)} : ∀ {n j i : Nat} {b : AV plain}, (slotsFrom K n j)[i]? = some (some b) → (j + i, b) ∈ K
  | 0, _, _, _, h => by simp [slotsFrom] at h
  | n + 1, j, 0, b, h => by simp [slotsFrom] at h; exact slotAt_mem h
  | n + 1, j, i + 1, b, h => by
    have := slotsFrom_mem (n := n) (j := j + 1) (i := i) (b := b) (by simpa [slotsFrom] using h)
    rwa [show j + 1 + i = j + (i + 1) by omega] at this
def kfit (m n : Nat) : List (Nat × AV plain) → Bool
  | [] => true
  | y :: r => fits m n y.2 && kfit m n r
theorem kfit_mem {m n : Nat} : ∀ {K : List (Nat × AV plain)} {y}, kfit m n K = true → y ∈ K → fits m n y.2 = true
  | [], _, _, h => by cases h
  | z :: r, y, hf, h => by
    simp only [kfit, Bool.and_eq_true] at hf
    rcases List.mem_cons.1 h with rfl | h
    · exact hf.1
    · exact kfit_mem hf.2 h
/-- A round's end: the counter has its new value. -/
theorem Left.next {z z' : Nat → Int} {l : List Value} {w0 w w' : World} {a' : Act} {nt : Nat} {Kp : List (Nat × AV plain)} {ci c : Nat} {cx : AV plain} {lo hi : Int} {B : List (AV plain)} {rows : List (List (AV plain))} {n : Nat}
    (h : Left (mix z l) w w' a' nt (Kp ++ [(ci, cx)]) (slotsFrom (Kp ++ [(ci, .sx (.v c) lo hi)]) nt 0) B 100000 (numbered rows 0)) (hw : Below w0.heap.size w0 w) (hn : n ≤ 100000) (hz : ∀ j, j < n → z j = z' j)
    (hrow : rowsFit rows.length n rows = true) (hK : kfit rows.length n Kp = true) (hci : ci < nt) (hc : c < 100000)
    (hcx : ∀ e : Env plain, (∀ j, j < 100000 → e.opq j = .int .i64 (z j)) → ∀ v, VR e cx v → v = .int .i64 (z' c)) (hlo : lo ≤ z' c) (hhi : z' c ≤ hi) :
    Stand z' B rows w0 a' w' ∧ a'.tmps[ci]? = some (.int .i64 (z' c)) := by
  have val : ∀ v, a'.tmps[ci]? = some v → v = .int .i64 (z' c) := fun v hv => by
    obtain ⟨e, ho, hks, _⟩ := h.told
    exact hcx e (fun j hj => by rw [ho]; exact mix_lo z l hj) v (hks (ci, cx) (by simp) v hv)
  refine ⟨h.stand hw hn hz hrow (fun i b hS => ?_), ?_⟩
  · have hm := slotsFrom_mem hS
    rw [Nat.zero_add] at hm
    rcases List.mem_append.1 hm with hm | hm
    · exact .inl ⟨List.mem_append_left _ hm, kfit_mem hK hm⟩
    · obtain ⟨rfl, rfl⟩ : i = ci ∧ b = .sx (.v c) lo hi := by simpa using hm
      refine .inr fun v hv e he => ?_
      rw [val v hv]
      simp only [VR, SX.eval, he c hc, valI]
      exact ⟨trivial, hlo, hhi⟩
  · have hs : ci < a'.tmps.size := by rw [h.size]; exact hci
    have hv : a'.tmps[ci]? = some a'.tmps[ci] := Array.getElem?_eq_getElem hs
    rw [hv, val _ hv]
/-- What a slot holds at the end. -/
theorem Left.has {z : Nat → Int} {l : List Value} {w w' : World} {a' : Act} {nt : Nat} {ks : List (Nat × AV plain)} {S : List (Option (AV plain))} {B : List (AV plain)} {N : Nat} {ex : List (Nat × List (AV plain))}
    (h : Left (mix z l) w w' a' nt ks S B N ex) {i : Nat} {b : AV plain} (hi : (i, b) ∈ ks) (hlt : i < nt) {u : Value}
    (hu : ∀ e : Env plain, (∀ j, j < 100000 → e.opq j = .int .i64 (z j)) → ∀ v, VR e b v → v = u) : a'.tmps[i]? = some u := by
  obtain ⟨e, ho, hks, _⟩ := h.told
  have hs : i < a'.tmps.size := by rw [h.size]; exact hlt
  have hv : a'.tmps[i]? = some a'.tmps[i] := Array.getElem?_eq_getElem hs
  rw [hv, hu e (fun j hj => by rw [ho]; exact mix_lo z l hj) _ (hks _ hi _ hv)]

section
variable {G : Ctx} {P : Program} {L : Look} {F0 : Fence} {rp : Bool} {H : (Nat → Value) → Prop} {T : List KC} {S' : List KP} {c d c3 : Code} {A : List (AV plain)} {rows : List (List (AV plain))}
    {nt : Nat} {x : Exit} {ks : List (Nat × AV plain)} {S : List (Option (AV plain))} {B : List (AV plain)} {N : Nat} {ex : List (Nat × List (AV plain))}
theorem piece_ok3 (hB : FB P L F0 rp)
    (hT : ∀ k ∈ T, k.free = true ∧ Con P F0 H k) (hS : ∀ p ∈ S', p.k.res.free = true ∧ Con P F0 p.ctx.holds p.k) (hG : ∀ o, G.holds o → H o) (hA : A.length = nt)
    (hr : pieceOk nt x ks S B N ex (run2 P L rp T S' G c3 (run2 P L rp T S' G d (run1 P L rp T S' G A nt rows c))) = true)
    (o : Nat → Value) (h1 : ∀ k, (o k).oneCell' = true) (ho : G.holds o) (ps : List Plc) (a : Act) (w : World) (n : Nat) (Q Q0 Q01 : Exit → Act → World → Prop)
    (hp : Placed w (envP o h1 ps) ps rows) (hv : VRs (envP o h1 ps) A a.tmps.toList) (hd : a.defers = [])
    (hQ : ∀ a' w', Left o w w' a' nt ks S B N ex → Q x a' w') : c.wpIn F0 n P (Exit.then (d.wpIn F0 n P (Exit.then (c3.wpIn F0 n P Q) Q01)) Q0) a w := by
  have hs : SelfOK (G := G) P F0 (evK P L rp (ora G T S') (drawA P L) fuelK) := evK_sound hB (ora_ok hG hT hS) fuelK
  obtain ⟨HE, HA⟩ := start_of (F0 := F0) hA o h1 ho ps a w hp hv hd
  cases hev : run1 P L rp T S' G A nt rows c with
  | none => rw [hev] at hr; cases hr
  | some r =>
    rw [hev] at hr
    cases r with
    | at_ z a0 h0 =>
      cases z with
      | normal =>
        cases hev2 : evK P L rp (ora G T S') (drawA P L) fuelK (.code none d a0 h0) with
        | none => simp only [run2, hev2] at hr; cases hr
        | some r2 =>
          simp only [run2, hev2] at hr
          cases r2 with
          | at_ y a1 hh =>
            cases y with
            | normal =>
              cases hev3 : evK P L rp (ora G T S') (drawA P L) fuelK (.code none c3 a1 hh) with
              | none => simp only [hev3] at hr; cases hr
              | some r3 =>
                simp only [hev3] at hr
                cases r3 with
                | at_ y2 a2 h2 =>
                  obtain ⟨rfl, hl⟩ := left_of (P := P) hr HE rfl
                  refine hs _ _ hev _ a w F0 n _ HE HA ⟨rfl, rfl⟩ (fun e1 b1 w1 St1 hA1 => ?_)
                  refine hs _ _ hev2 e1 b1 w1 F0 n _ St1.hr hA1 ⟨St1.le.fnok, rfl⟩ (fun e2 b2 w2 St2 hA2 => ?_)
                  exact hs _ _ hev3 e2 b2 w2 F0 n Q St2.hr hA2 ⟨St2.le.fnok.trans St1.le.fnok, rfl⟩ (fun e' a' w' St' hA' => hQ a' w' (hl e' a' w' ((St1.trans St2).trans St') hA'))
                | ret _ _ => cases hr
                | pan _ _ => cases hr
            | _ => cases hr
          | ret _ _ => cases hr
          | pan _ _ => cases hr
      | _ => cases hr
    | ret _ _ => cases hr
    | pan _ _ => cases hr
/-- A function of one loop in a scope that no jump leaves. -/
theorem fn_loopS {f : FuncId} {fn : Func} {c0 c1 c2 b rest : Code} {i lb : Nat} {args : Array Value} {w : World} {n : Nat} {R : Ending → World → Prop}
    (hf : P.funcs[f]? = some fn) (hb : fn.body = some (.seq c0 (.scope (.seq c1 (.seq (.label lb) (.seq (.seq c2 (.block i (.loop b))) rest)))))) (hF : F0.fn f) (hro : F0.round = none)
    (I : Act → World → Prop) (μ : Act → World → Nat) (J D : Act → World → Prop)
    (hpre : ∀ Q, (∀ a w', I a w' → Q .normal a w') → ∀ Q0 Q01, c0.wpIn F0 n P (Exit.then (c1.wpIn F0 n P (Exit.then (c2.wpIn F0 n P Q) Q01)) Q0) { tmps := args ++ Array.replicate (fn.ntmps - args.size) undef, defers := [] } w)
    (hround : ∀ a w, I a w → b.wpIn F0 n P (fun x a' w' => (x = .normal ∧ I a' w' ∧ μ a' w' < μ a w) ∨ (x = .exit i ∧ J a' w') ∨ (x = .ret ∧ D a' w')) a w)
    (hrest : ∀ a w, J a w → rest.wpIn F0 n P (fun x a' w' => x = .ret ∧ D a' w') a w)
    (hD : ∀ a w, D a w → a.defers = [] ∧ ∃ v, (results fn a.tmps).run P w = .ok v w ∧ R (.returned v) w) : CallsIn F0 n P f args w R := by
  have hret : ∀ a w, D a w → bodyPost P fn R .ret a w := fun a w h => by
    obtain ⟨h1, v, h2, h3⟩ := hD a w h
    exact bodyPost_ret h2 h1 h3
  refine callsIn_of_wp hf hb hF ?_ hro
  refine wpIn_seq ?_
  let nb : Exit → Act → World → Prop := noJump (bodyPost P fn R)
  let Q1 : Exit → Act → World → Prop := Exit.then ((Code.block i (.loop b)).wpIn F0 n P (Exit.then (rest.wpIn F0 n P nb) nb)) (Exit.then (rest.wpIn F0 n P nb) nb)
  have key : ∀ a w', I a w' → (Code.block i (.loop b)).wpIn F0 n P (Exit.then (rest.wpIn F0 n P nb) nb) a w' := fun a w' hI => by
    refine wpIn_block (wpIn_loop I μ hI fun a w hI => ?_)
    refine wpIn_mono (hround a w hI) (fun x a' w' hx => ?_)
    rcases hx with ⟨rfl, h1, h2⟩ | ⟨rfl, h1⟩ | ⟨rfl, h1⟩
    · exact ⟨h1, h2⟩
    · show (if i = i then _ else _)
      rw [if_pos rfl]
      refine wpIn_mono (hrest a' w' h1) (fun x a' w' hx => ?_)
      obtain ⟨rfl, h2⟩ := hx
      exact hret _ _ h2
    · exact hret _ _ h1
  refine wpIn_mono (hpre Q1 key (bodyPost P fn R) nb) (fun x a' w' hx => ?_)
  cases x with
  | normal =>
    refine wpIn_scope_calm (wpIn_seq ?_)
    refine wpIn_mono hx (fun x a' w' hx => ?_)
    cases x with
    | normal => exact wpIn_seq (wpIn_label (wpIn_seq (wpIn_seq hx)))
    | _ => exact hx
  | _ => exact hx
end
theorem results_t2 {P : Program} {fn : Func} {p q : Tmp} (h : fn.results = #[.tmp p, .tmp q]) {tmps : Array Value} {u v : Value} (hu : tmps[p]? = some u) (hv : tmps[q]? = some v) (w : World) : (results fn tmps).run P w = .ok (.tuple #[u, v]) w := by
  simp [results, h, hu, hv, Sem.run_bind, Result.andThen]
end Go.Ev
end

noncomputable section
namespace Go.Ev
open Go.RowKit
/-! ### Answers of any kind -/
def runO (P : Program) (L : Look) (rp : Bool) {G : Ctx} (O : Oracle G) (k : KC) : Option (Res G) :=
  evK P L rp O (drawA P L) fuelK (.call k.f (AV.tos G k.args) (frnH (objL (k.obj.map (AV.tos G)))))
theorem con_of_orc {P : Program} {L : Look} {F0 : Fence} {rp : Bool} (hB : FB P L F0 rp) {G : Ctx} {O : Oracle G} {k : KC} (hf : k.res.free = true) (hO : O.ok P F0) (hr : isRes k.res (runO P L rp O k) = true) : Con P F0 G.holds k := by
  have hs : SelfOK (G := G) P F0 (evK P L rp O (drawA P L) fuelK) := evK_sound hB hO fuelK
  -- the world of the run
  have start : ∀ (o : Nat → Value) (h1 : ∀ i, (o i).oneCell' = true) (ho : G.holds o) (e0 : Env plain) (ps : List Plc) (vs : Array Value) (w : World), e0.opq = o → There w e0 ps k.obj → VRs e0 k.args vs.toList →
      HR (frnEnv F0 o h1 ho ps w.heap.size) (frnH (objL (k.obj.map (AV.tos G)))) w ∧ VRs (frnEnv F0 o h1 ho ps w.heap.size) (AV.tos G k.args) vs.toList := by
    intro o h1 ho e0 ps vs w he ⟨t1, t2, t3, t4⟩ hv
    have al : e0.alike (frnEnv F0 o h1 ho ps w.heap.size) := ⟨he, funext t2, funext t3⟩
    refine ⟨HR.frn _ _ ?_ (fun i c p hc hp => ?_), (VRs.to al k.args _).1 hv⟩
    · rw [t1]; cases k.obj <;> rfl
    · cases hk : k.obj with
      | none => rw [hk] at hc; simp [objL] at hc
      | some cs =>
        rw [hk] at hc t1
        simp only [objL, Option.map_some] at hc
        cases i with
        | succ i => simp at hc
        | zero =>
          simp at hc; subst hc
          obtain ⟨q, rfl⟩ : ∃ q, ps = [q] := by
            match ps, t1 with
            | [q], _ => exact ⟨q, rfl⟩
          simp at hp; subst hp
          obtain ⟨t5, t6⟩ := t4 cs q hk rfl
          refine ⟨t5, fun j a ha => ?_⟩
          obtain ⟨b, hb, rfl⟩ := AV.tos_get ha
          obtain ⟨v, hv1, hv2⟩ := t6 j b hb
          exact ⟨v, hv1, (VR.to al b v).1 hv2⟩
  unfold isRes at hr
  split at hr
  · rename_i v hh hev
    cases hk : k.res with
    | pan c => rw [hk] at hr; cases hr
    | ret v0 =>
      rw [hk] at hr
      have hv0 : v0.free = true := by rw [hk] at hf; exact hf
      have hsame := sameA_eq hr
      subst hsame
      have kj := hs _ _ hev
      intro o h1 ho e0 ps vs w n he ht hv
      obtain ⟨HE, HV⟩ := start o h1 ho e0 ps vs w he ht hv
      refine kj _ vs w n _ rfl HE HV (fun e' v' w' S hvr => ⟨?_, S.below HE⟩)
      rw [hk]
      refine ⟨v', rfl, ⟨e'.φ, o, 0, e'.room, fun _ => True, h1, plain_holds _⟩, rfl, ?_⟩
      exact (VR.to (G := plain) (G' := G) ⟨by have := S.le.opq; exact this.symm, rfl, rfl⟩ v0 v').2 hvr
  · rename_i c hh hev
    split at hr
    · rename_i d e hk
      split at hr
      · rename_i t a t' a' hd he'
        simp only [Bool.and_eq_true, Bool.not_eq_true'] at hr
        obtain ⟨⟨⟨⟨⟨⟨r1, r2⟩, r3⟩, r4⟩, r5⟩, r6⟩, r7⟩ := hr
        have ede : d = e := by
          obtain ⟨dv, dr, dg⟩ := d
          obtain ⟨ev, er, eg⟩ := e
          simp only at hd he' r4 r5 r6 r7
          rw [hd, he', r4, r5, r6, r7, Nat.eq_of_beq_eq_true r1, Array.eq_empty_of_size_eq_zero (Nat.eq_of_beq_eq_true r2), Array.eq_empty_of_size_eq_zero (Nat.eq_of_beq_eq_true r3)]
        subst ede
        have kj := hs _ _ hev
        intro o h1 ho e0 ps vs w n he ht hv
        obtain ⟨HE, HV⟩ := start o h1 ho e0 ps vs w he ht hv
        refine kj _ vs w n _ rfl HE HV (fun e' w' S => ⟨?_, S.below HE⟩)
        rw [hk]
        rfl
      · cases hr
    · cases hr
  · cases hr


/-- A call with a function value that has caught a row: f(a, b, F with the row). -/
structure KF where
  f : Nat
  a : AV plain
  b : AV plain
  fn : Nat
  row : List (AV plain)
  res : AV plain
def KF.free (k : KF) : Bool := k.a.free && k.b.free && AV.frees k.row && k.res.free
def ConF (P : Program) (F0 : Fence) (H : (Nat → Value) → Prop) (k : KF) : Prop :=
  ∀ (o : Nat → Value), H o → ∀ (e0 : Env plain) (va vb : Value) (w : World) (n g : Nat), e0.opq = o → VR e0 k.a va → VR e0 k.b vb → g < w.heap.size →
    (∀ (j : Nat) (c : AV plain), k.row[j]? = some c → ∃ v, w.cell? ⟨g, j, none⟩ = some v ∧ VR e0 c v) →
    CallsIn F0 n P k.f #[va, vb, .func (.func k.fn) #[] #[.pointer (some ⟨g, 0, none⟩)]] w fun en w' => (∃ v', en = .returned v' ∧ VR e0 k.res v') ∧ Below w.heap.size w w'
/-- The row is there, the call's own. -/
def ownRow {G : Ctx} (h : AH G) (id : Nat) (row : List (AV plain)) : Bool :=
  match h.objs.get id with
  | some (.cells us (some _)) => samesA us (AV.tos G row)
  | _ => false
def ansF (G : Ctx) (k : KF) : Oracle G := fun f args h =>
  match args with
  | [a, b, .func (.func F) [] [.ptr id 0]] => cond (Nat.beq k.f f && (Nat.beq k.fn F && (sameA (k.a.to G) a && (sameA (k.b.to G) b && ownRow h id k.row)))) (some (.ret (k.res.to G) h)) none
  | _ => none
theorem AV.tos_map {G : Ctx} : ∀ (l : List (AV plain)) (i : Nat), (AV.tos G l)[i]? = (l[i]?).map (AV.to G) := fun l i => AV.tos_at l i
theorem frees_at : ∀ {l : List (AV plain)} {j : Nat} {c : AV plain}, AV.frees l = true → l[j]? = some c → c.free = true
  | [], j, c, _, h => by simp at h
  | b :: r, 0, c, hf, h => by simp at h; subst h; simp only [AV.frees, Bool.and_eq_true] at hf; exact hf.1
  | b :: r, j + 1, c, hf, h => by simp only [AV.frees, Bool.and_eq_true] at hf; exact frees_at hf.2 (by simpa using h)
theorem ansF_ok {P : Program} {F0 : Fence} {G : Ctx} {H : (Nat → Value) → Prop} {k : KF} (hG : ∀ o, G.holds o → H o) (hf : k.free = true) (hC : ConF P F0 H k) : (ansF G k).ok P F0 := by
  intro f args h r hr
  unfold ansF at hr
  split at hr
  · rename_i a b F id
    cases hc : (Nat.beq k.f f && (Nat.beq k.fn F && (sameA (k.a.to G) a && (sameA (k.b.to G) b && ownRow h id k.row)))) with
    | false => rw [hc] at hr; cases hr
    | true =>
      rw [hc] at hr
      cases hr
      simp only [Bool.and_eq_true] at hc
      obtain ⟨q1, q2, q3, q4, q5⟩ := hc
      have e1 := Nat.eq_of_beq_eq_true q1
      have e2 := Nat.eq_of_beq_eq_true q2
      have e3 := sameA_eq q3
      have e4 := sameA_eq q4
      subst e1 e2 e3 e4
      simp only [KF.free, Bool.and_eq_true] at hf
      obtain ⟨⟨⟨f1, f2⟩, f3⟩, f4⟩ := hf
      intro e vs w n R hE Hh hv hR
      -- the arguments
      simp only [VRs] at hv
      obtain ⟨va, r1, h1, ha, vb, r2, rfl, hb, vf, r3, rfl, hfn, rfl⟩ := hv
      simp only [VR, VRs] at hfn
      obtain ⟨xs, ys, rfl, hxs, hys⟩ := hfn
      obtain ⟨vp, r4, hy, ⟨bk, off, hφ, rfl⟩, rfl⟩ := hys
      -- the row
      unfold ownRow at q5
      split at q5
      · rename_i us g hob
        have hus := samesA_eq q5
        subst hus
        obtain ⟨bk', k1, k2, cc, t, k3, k4, k5⟩ := Hh.obj _ _ hob
        rw [hφ] at k1
        cases k1
        have e0 : Env plain := ⟨e.φ, e.opq, e.base, e.room, e.fnok, e.one, plain_holds _⟩
        let ep : Env plain := ⟨e.φ, e.opq, e.base, e.room, e.fnok, e.one, plain_holds _⟩
        have al : ep.alike e := ⟨rfl, rfl, rfl⟩
        have hvs : vs = #[va, vb, .func (.func k.fn) #[] #[.pointer (some ⟨bk, 0, none⟩)]] := by
          have e5 : xs = #[] := by simpa using hxs
          have e6 : ys = #[.pointer (some ⟨bk, 0 + 0, none⟩)] := by apply Array.toList_inj.1; simpa using hy
          subst e5 e6
          apply Array.toList_inj.1
          simpa using h1
        rw [hvs]
        refine (hC e.opq (hG _ e.holds) ep va vb w n bk rfl ((VR.to al _ _).2 ha) ((VR.to al _ _).2 hb) (Array.getElem?_eq_some_iff.1 k3).1 (fun j c hc => ?_)).mono fun en w' ⟨⟨v', h3, h4⟩, h5⟩ => ?_
        · obtain ⟨v, hv1, hv2⟩ := k5 j (c.to G) (by rw [AV.tos_at, hc]; rfl)
          exact ⟨v, by simp only [World.cell?, k3]; exact hv1, (VR.to al c v).2 hv2⟩
        · rw [h3]
          exact hR e v' w' (St.of_below Hh h5) ((VR.to al _ _).1 h4)
      · cases q5
  · cases hr
/-- The one or the other. -/
theorem both_ok {P : Program} {F0 : Fence} {G : Ctx} {O O' : Oracle G} (h : O.ok P F0) (h' : O'.ok P F0) : Oracle.ok P F0 (fun f args hh => answerK (O' f args hh) (O f args hh)) := by
  intro f args hh r hr
  change answerK _ (O f args hh) = some r at hr
  cases h1 : O f args hh with
  | none => rw [h1] at hr; exact h' _ _ _ _ hr
  | some k => rw [h1] at hr; cases hr; exact h _ _ _ _ h1
end Go.Ev
end

noncomputable section
namespace Go.Ev
open Go.RowKit
/-! ### Contracts over several rows that are read: slices that come in, wherever they lie -/
/-- A slice: the size of its elements, how many they are, their cells. -/
abbrev Spec := Nat × Nat × List (AV plain)
structure KW where
  f : Nat
  pre : List (AV plain)
  sl : List Spec
  res : AV plain
def IsVals (o : Nat → Value) (a : List (AV plain)) (v : List Value) : Prop := ∃ (e : Env plain), e.opq = o ∧ VRs e a v
def RowAt (o : Nat → Value) (w : World) (v : Value) (s : Spec) : Prop :=
  ∃ b off cap, v = .slice (some ⟨b, off, none⟩) s.2.1 cap ∧ s.2.1 ≤ cap ∧ b < w.heap.size ∧ ∀ (j : Nat) (a : AV plain), s.2.2[j]? = some a → ∃ u, w.cell? ⟨b, off + j, none⟩ = some u ∧ IsValue o a u
def RowsAt (o : Nat → Value) (w : World) : List Value → List Spec → Prop
  | [], [] => True
  | v :: vs, s :: r => RowAt o w v s ∧ RowsAt o w vs r
  | [], _ :: _ => False
  | _ :: _, [] => False
def ConW (P : Program) (F0 : Fence) (H : (Nat → Value) → Prop) (k : KW) : Prop :=
  ∀ (o : Nat → Value), (∀ i, (o i).oneCell' = true) → H o → ∀ (vp vr : List Value) (w : World) (n : Nat), IsVals o k.pre vp → RowsAt o w vr k.sl →
    CallsIn F0 n P k.f (vp ++ vr).toArray w fun en w' => (∃ v', en = .returned v' ∧ IsValue o k.res v') ∧ Below w.heap.size w w'
def slArgs {G : Ctx} : Nat → List Spec → List (AV G)
  | _, [] => []
  | i, s :: r => .slice i 0 s.2.1 s.1 true :: slArgs (i + 1) r
def KW.free (k : KW) : Bool := AV.frees k.pre && k.sl.all (fun s => AV.frees s.2.2) && k.res.free
def runW (P : Program) (L : Look) (rp : Bool) {G : Ctx} (O : Oracle G) (k : KW) : Option (Res G) :=
  evK P L rp O (drawA P L) fuelK (.call k.f (AV.tos G k.pre ++ slArgs 0 k.sl) (frnH (k.sl.map fun s => AV.tos G s.2.2)))
theorem vrs_append {G : Ctx} {e : Env G} : ∀ {a b : List (AV G)} {x y : List Value}, VRs e a x → VRs e b y → VRs e (a ++ b) (x ++ y)
  | [], _, x, _, h, k => by simp only [VRs] at h; subst h; exact k
  | a :: r, _, x, _, h, k => by
    simp only [VRs] at h
    obtain ⟨v, vs, rfl, h1, h2⟩ := h
    show VRs e (a :: (r ++ _)) (v :: (vs ++ _))
    simp only [VRs]
    exact ⟨v, _, rfl, h1, vrs_append h2 k⟩
theorem vrs_sl {G : Ctx} {e : Env G} : ∀ (sl : List Spec) (vs : List Value) (i : Nat), vs.length = sl.length →
    (∀ (k : Nat) (s : Spec), sl[k]? = some s → ∃ (v : Value) (b o c : Nat), vs[k]? = some v ∧ e.φ (i + k) = some (b, o) ∧ v = .slice (some ⟨b, o, none⟩) s.2.1 c ∧ s.2.1 ≤ c ∧ c * s.1 ≤ e.room (i + k)) → VRs e (slArgs i sl) vs
  | [], [], _, _, _ => by simp only [slArgs, VRs]
  | s :: r, v :: vs, i, hl, h => by
    obtain ⟨v', b, o, c, h1, h2, h3, h4, h5⟩ := h 0 s rfl
    simp at h1
    subst h1
    simp only [slArgs, VRs]
    refine ⟨v, vs, rfl, ?_, vrs_sl r vs (i + 1) (by simpa using hl) fun k s' hk => ?_⟩
    · simp only [VR]
      exact ⟨b, o, c, h2, h3, h4, fun h => (by cases h), fun _ _ => h5⟩
    · have := h (k + 1) s' (by simpa using hk)
      obtain ⟨v', b, o, c, h1, h2, h3⟩ := this
      rw [show i + (k + 1) = i + 1 + k by omega] at h2 h3
      exact ⟨v', b, o, c, by simpa using h1, h2, h3⟩
  | [], _ :: _, _, hl, _ => by simp at hl
  | _ :: _, [], _, hl, _ => by simp at hl
theorem rowsAt_len {o : Nat → Value} {w : World} : ∀ {vs : List Value} {sl : List Spec}, RowsAt o w vs sl → vs.length = sl.length
  | [], [], _ => rfl
  | _ :: _, _ :: _, h => by simp only [RowsAt] at h; simp [rowsAt_len h.2]
  | [], _ :: _, h => h.elim
  | _ :: _, [], h => h.elim
theorem rowsAt_get {o : Nat → Value} {w : World} : ∀ {vs : List Value} {sl : List Spec}, RowsAt o w vs sl → ∀ (k : Nat) (s : Spec), sl[k]? = some s → ∃ v, vs[k]? = some v ∧ RowAt o w v s
  | [], [], _, k, s, h => by simp at h
  | v :: vs, s :: r, h, 0, s', hk => by simp at hk; subst hk; exact ⟨v, rfl, h.1⟩
  | v :: vs, s :: r, h, k + 1, s', hk => by simpa using rowsAt_get h.2 k s' (by simpa using hk)
  | [], _ :: _, h, _, _, _ => h.elim
  | _ :: _, [], h, _, _, _ => h.elim
/-- Where the rows lie. -/
theorem places {o : Nat → Value} {w : World} : ∀ {vs : List Value} {sl : List Spec}, RowsAt o w vs sl → ∃ ps : List Plc, ps.length = sl.length ∧ ∀ (k : Nat) (s : Spec), sl[k]? = some s → ∃ (p : Plc) (v : Value) (c : Nat), ps[k]? = some p ∧ vs[k]? = some v ∧ v = .slice (some ⟨p.b, p.o, none⟩) s.2.1 c ∧ s.2.1 ≤ c ∧ c * s.1 ≤ p.room ∧ p.b < w.heap.size ∧
    ∀ (j : Nat) (a : AV plain), s.2.2[j]? = some a → ∃ u, w.cell? ⟨p.b, p.o + j, none⟩ = some u ∧ IsValue o a u
  | [], [], _ => ⟨[], rfl, fun k s h => by simp at h⟩
  | v :: vs, s :: r, h => by
    obtain ⟨ps, h1, h2⟩ := places h.2
    obtain ⟨b, off, cap, h3, h4, h5, h6⟩ := h.1
    refine ⟨⟨b, off, cap * s.1⟩ :: ps, by simp [h1], fun k s' hk => ?_⟩
    match k, hk with
    | 0, hk => simp at hk; subst hk; exact ⟨_, v, cap, rfl, rfl, h3, h4, Nat.le_refl _, h5, h6⟩
    | k + 1, hk => simpa using h2 k s' (by simpa using hk)
  | [], _ :: _, h => h.elim
  | _ :: _, [], h => h.elim
theorem conW_of_run {P : Program} {L : Look} {F0 : Fence} {rp : Bool} (hB : FB P L F0 rp) {G : Ctx} {O : Oracle G} {k : KW} (hf : k.free = true) (hO : O.ok P F0) (hr : isRes (.ret k.res) (runW P L rp O k) = true) : ConW P F0 G.holds k := by
  have hs : SelfOK (G := G) P F0 (evK P L rp O (drawA P L) fuelK) := evK_sound hB hO fuelK
  simp only [KW.free, Bool.and_eq_true] at hf
  obtain ⟨⟨f1, f2⟩, f3⟩ := hf
  have f2' := List.all_eq_true.1 f2
  intro o h1 ho vp vr w n ⟨ep, hep, hvp⟩ hrows
  obtain ⟨ps, hlen, hps⟩ := places hrows
  let e0 : Env plain := ⟨fun i => (ps[i]?).map fun p => (p.b, p.o), o, w.heap.size, fun i => ((ps[i]?).map (·.room)).getD 0, F0.fn, h1, plain_holds _⟩
  have al : e0.alike (frnEnv F0 o h1 ho ps w.heap.size) := ⟨rfl, rfl, rfl⟩
  have HE : HR (frnEnv F0 o h1 ho ps w.heap.size) (frnH (k.sl.map fun s => AV.tos G s.2.2)) w := by
    refine HR.frn _ _ (by simp [hlen]) fun i c p hc hp => ?_
    rw [List.getElem?_map] at hc
    cases hk : k.sl[i]? with
    | none => rw [hk] at hc; cases hc
    | some s =>
      rw [hk] at hc
      cases hc
      obtain ⟨p', v, cc, q1, q2, q3, q4, q5, q6, q7⟩ := hps i s hk
      rw [hp] at q1
      cases q1
      refine ⟨q6, fun j a ha => ?_⟩
      obtain ⟨a0, ha0, rfl⟩ := AV.tos_get ha
      obtain ⟨u, hu1, e1, he1, hu2⟩ := q7 j a0 ha0
      have hfr : a0.free = true := frees_at (f2' s (List.mem_of_getElem? hk)) ha0
      exact ⟨u, hu1, (VR.to al a0 u).1 (VR.free (e := e1) (e' := e0) he1 a0 u hfr hu2)⟩
  have HV : VRs (frnEnv F0 o h1 ho ps w.heap.size) (AV.tos G k.pre ++ slArgs 0 k.sl) (vp ++ vr).toArray.toList := by
    refine vrs_append ((VRs.to al k.pre vp).1 (VRs.free (e := ep) (e' := e0) hep k.pre vp f1 hvp)) (vrs_sl k.sl vr 0 (rowsAt_len hrows) fun i s hk => ?_)
    obtain ⟨p, v, cc, q1, q2, q3, q4, q5, q6, q7⟩ := hps i s hk
    exact ⟨v, p.b, p.o, cc, q2, by simp [frnEnv, q1], q3, q4, by simpa [frnEnv, q1] using q5⟩
  unfold isRes at hr
  split at hr
  · rename_i v hh hev
    have hsame := sameA_eq hr
    subst hsame
    have kj := hs _ _ hev
    refine kj _ _ w n _ rfl HE HV (fun e' v' w' S hvr => ⟨?_, S.below HE⟩)
    refine ⟨v', rfl, ⟨e'.φ, o, 0, e'.room, fun _ => True, h1, plain_holds _⟩, rfl, ?_⟩
    exact (VR.to (G := plain) (G' := G) ⟨by have := S.le.opq; exact this.symm, rfl, rfl⟩ k.res v').2 hvr
  · cases hr
  · cases hr
/-! ### As answers -/
def cellsAt {G : Ctx} (h : AH G) (id off : Nat) (cs : List (AV plain)) : Bool :=
  match h.objs.get id with
  | some (.cells us _) => samesA ((us.drop off).take cs.length) (AV.tos G cs)
  | _ => false
def matchSl {G : Ctx} (h : AH G) : List Spec → List (AV G) → Bool
  | [], [] => true
  | s :: r, a :: as => (match a with | .slice id off len _ _ => Nat.beq len s.2.1 && cellsAt h id off s.2.2 | _ => false) && matchSl h r as
  | [], _ :: _ => false
  | _ :: _, [] => false
def ansW (G : Ctx) : List KW → Oracle G :=
  List.rec (fun _ _ _ => none) (fun k _ ih f args h => Bool.rec (ih f args h) (Bool.rec (ih f args h) (some (.ret (k.res.to G) h)) (samesA (args.take k.pre.length) (AV.tos G k.pre) && matchSl h k.sl (args.drop k.pre.length))) (Nat.beq k.f f))
theorem take_vrs {G : Ctx} {e : Env G} : ∀ (n : Nat) {a : List (AV G)} {v : List Value}, VRs e a v → VRs e (a.take n) (v.take n) ∧ VRs e (a.drop n) (v.drop n)
  | 0, a, v, h => ⟨by simp [VRs], h⟩
  | n + 1, [], v, h => by simp only [VRs] at h; subst h; simp [VRs]
  | n + 1, a :: r, v, h => by
    simp only [VRs] at h
    obtain ⟨x, xs, rfl, h1, h2⟩ := h
    have := take_vrs n h2
    refine ⟨?_, by simpa using this.2⟩
    simp only [List.take_succ_cons, VRs]
    exact ⟨x, _, rfl, h1, this.1⟩
theorem matchSl_rows {G : Ctx} {e : Env G} {h : AH G} {w : World} (Hh : HR e h w) (h1 : ∀ i, (e.opq i).oneCell' = true) : ∀ {sl : List Spec} {as : List (AV G)} {vs : List Value}, (∀ s ∈ sl, AV.frees s.2.2 = true) → matchSl h sl as = true → VRs e as vs → RowsAt e.opq w vs sl
  | [], [], vs, _, _, hv => by simp only [VRs] at hv; subst hv; trivial
  | s :: r, a :: as, vs, hf, hm, hv => by
    simp only [VRs] at hv
    obtain ⟨v, xs, rfl, hv1, hv2⟩ := hv
    simp only [matchSl, Bool.and_eq_true] at hm
    obtain ⟨m1, m2⟩ := hm
    refine ⟨?_, matchSl_rows Hh h1 (fun s' hs' => hf s' (List.mem_cons_of_mem _ hs')) m2 hv2⟩
    split at m1
    · rename_i id off len cap gr
      simp only [Bool.and_eq_true] at m1
      have hlen := Nat.eq_of_beq_eq_true m1.1
      subst hlen
      have hc := m1.2
      simp only [VR] at hv1
      obtain ⟨b, o, c, g1, g2, g3, g4, g5⟩ := hv1
      unfold cellsAt at hc
      split at hc
      · rename_i us grp hob
        have hus := samesA_eq hc
        let ep : Env plain := ⟨e.φ, e.opq, e.base, e.room, e.fnok, e.one, plain_holds _⟩
        have al : ep.alike e := ⟨rfl, rfl, rfl⟩
        have cell : b < w.heap.size ∧ ∀ (i : Nat) (a : AV G), us[i]? = some a → ∃ u, w.cell? ⟨b, o + i, none⟩ = some u ∧ VR e a u := by
          have := Hh.obj _ _ hob
          cases grp with
          | none =>
            obtain ⟨b', o', k1, k2, k3⟩ := this
            rw [g1] at k1
            cases k1
            exact ⟨Nat.lt_of_lt_of_le k2 Hh.base, k3⟩
          | some g =>
            obtain ⟨b', k1, k2, cc, t, k3, k4, k5⟩ := this
            rw [g1] at k1
            cases k1
            refine ⟨(Array.getElem?_eq_some_iff.1 k3).1, fun i a ha => ?_⟩
            obtain ⟨u, hu1, hu2⟩ := k5 i a ha
            exact ⟨u, by simp only [World.cell?, k3, Nat.zero_add]; exact hu1, hu2⟩
        refine ⟨b, o + off, c, g2, g3, cell.1, fun j a ha => ?_⟩
        have e1 : (AV.tos G s.2.2)[j]? = some (a.to G) := by rw [AV.tos_at, ha]; rfl
        rw [← hus] at e1
        have e2 : us[off + j]? = some (a.to G) := by
          rw [List.getElem?_take] at e1
          split at e1
          · rwa [List.getElem?_drop] at e1
          · cases e1
        obtain ⟨u, hu1, hu2⟩ := cell.2 _ _ e2
        refine ⟨u, by rw [Nat.add_assoc]; exact hu1, ep, rfl, (VR.to al a u).2 hu2⟩
      · cases hc
    · cases m1
  | [], _ :: _, _, _, hm, _ => by cases hm
  | _ :: _, [], _, _, hm, _ => by cases hm
theorem ansW_ok {P : Program} {F0 : Fence} {G : Ctx} {H : (Nat → Value) → Prop} (hG : ∀ o, G.holds o → H o) : ∀ (T : List KW), (∀ k ∈ T, k.free = true ∧ ConW P F0 H k) → (ansW G T).ok P F0
  | [], _ => fun _ _ _ _ h => by cases h
  | k :: T, hT => by
    intro f args h r hr
    have ih := ansW_ok hG T (fun k hk => hT k (List.mem_cons_of_mem _ hk))
    change (Bool.rec (ansW G T f args h) (Bool.rec (ansW G T f args h) (some (.ret (k.res.to G) h)) (samesA (args.take k.pre.length) (AV.tos G k.pre) && matchSl h k.sl (args.drop k.pre.length))) (Nat.beq k.f f) : Option (Res G)) = some r at hr
    cases h1 : Nat.beq k.f f with
    | false => rw [h1] at hr; exact ih f args h r hr
    | true =>
      rw [h1] at hr
      cases h2 : (samesA (args.take k.pre.length) (AV.tos G k.pre) && matchSl h k.sl (args.drop k.pre.length)) with
      | false => rw [h2] at hr; exact ih f args h r hr
      | true =>
        rw [h2] at hr
        cases hr
        have hf := Nat.eq_of_beq_eq_true h1
        simp only [Bool.and_eq_true] at h2
        have ha := samesA_eq h2.1
        subst hf
        obtain ⟨hfree, hcon⟩ := hT k (List.mem_cons_self ..)
        simp only [KW.free, Bool.and_eq_true] at hfree
        obtain ⟨⟨f1, f2⟩, f3⟩ := hfree
        have f2' := List.all_eq_true.1 f2
        refine says_job (k := .ret k.res) (o := fun _ => undef) f3 (fun e vs w n hE Hh hv => ?_)
        let e1 : Env plain := ⟨e.φ, e.opq, e.base, e.room, e.fnok, e.one, plain_holds _⟩
        have tv := take_vrs k.pre.length hv
        rw [ha] at tv
        have := hcon e.opq e.one (hG _ e.holds) (vs.toList.take k.pre.length) (vs.toList.drop k.pre.length) w n ⟨e1, rfl, (VRs.to (e := e1) (e' := e) ⟨rfl, rfl, rfl⟩ k.pre _).2 tv.1⟩ (matchSl_rows Hh e.one (fun s hs => f2' s hs) h2.2 tv.2)
        rw [List.take_append_drop] at this
        exact this
end Go.Ev
end

