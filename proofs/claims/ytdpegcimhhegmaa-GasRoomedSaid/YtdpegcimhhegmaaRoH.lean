import Derived.Test.YtdpegcimhhegmaaLoop
set_option linter.unusedVariables false
set_option linter.unusedSimpArgs false
set_option linter.unusedSectionVars false
noncomputable section
namespace Go.Ev
open Go.RowKit
/-! ### Answers of any kind -/
def runO (P : Program) (L : Look) (rp : Bool) {G : Ctx} (O : Oracle G) (k : KC) : Option (Res G) :=
  evK P L rp O (drawA P L) fuelK (.call k.f (AV.tos G k.args) (frnH (objL (k.obj.map (AV.tos G)))))
theorem con_of_orc {P : Program} {L : Look} {F0 : Fence} {rp : Bool} (hB : FB P L F0 rp) {G : Ctx} {O : Oracle G} {k : KC} (hf : k.res.free = true) (hO : O.ok P F0) (hr : isRes k.res (runO P L rp O k) = true) : Con P F0 G.holds k := by
  have hs : SelfOK (G := G) P F0 (evK P L rp O (drawA P L) fuelK) := evK_sound hB hO fuelK
  -- the world of the run
  have start : ∀ (o : Nat → Value) (h1 : ∀ i, (o i).oneCell' = true) (ho : G.holds o) (e0 : Env plain) (ps : List Plc) (vs : Array Value) (w : World), e0.opq = o → There w e0 ps k.obj → VRs e0 k.args vs.toList →
      HR (frnEnv F0 o h1 ho ps w.heap.size) (frnH (objL (k.obj.map (AV.tos G)))) w ∧ VRs (frnEnv F0 o h1 ho ps w.heap.size) (AV.tos G k.args) vs.toList := by
    intro o h1 ho e0 ps vs w he ⟨t1, t2, t3, t4⟩ hv
    have al : e0.alike (frnEnv F0 o h1 ho ps w.heap.size) := ⟨he, funext t2, funext t3⟩
    refine ⟨HR.frn _ _ ?_ (fun i c p hc hp => ?_), (VRs.to al k.args _).1 hv⟩
    · rw [t1]; cases k.obj <;> rfl
    · cases hk : k.obj with
      | none => rw [hk] at hc; simp [objL] at hc
      | some cs =>
        rw [hk] at hc t1
        simp only [objL, Option.map_some] at hc
        cases i with
        | succ i => simp at hc
        | zero =>
          simp at hc; subst hc
          obtain ⟨q, rfl⟩ : ∃ q, ps = [q] := by
            match ps, t1 with
            | [q], _ => exact ⟨q, rfl⟩
          simp at hp; subst hp
          obtain ⟨t5, t6⟩ := t4 cs q hk rfl
          refine ⟨t5, fun j a ha => ?_⟩
          obtain ⟨b, hb, rfl⟩ := AV.tos_get ha
          obtain ⟨v, hv1, hv2⟩ := t6 j b hb
          exact ⟨v, hv1, (VR.to al b v).1 hv2⟩
  unfold isRes at hr
  split at hr
  · rename_i v hh hev
    cases hk : k.res with
    | pan c => rw [hk] at hr; cases hr
    | ret v0 =>
      rw [hk] at hr
      have hv0 : v0.free = true := by rw [hk] at hf; exact hf
      have hsame := sameA_eq hr
      subst hsame
      have kj := hs _ _ hev
      intro o h1 ho e0 ps vs w n he ht hv
      obtain ⟨HE, HV⟩ := start o h1 ho e0 ps vs w he ht hv
      refine kj _ vs w n _ rfl HE HV (fun e' v' w' S hvr => ⟨?_, S.below HE⟩)
      rw [hk]
      refine ⟨v', rfl, ⟨e'.φ, o, 0, e'.room, fun _ => True, h1, plain_holds _⟩, rfl, ?_⟩
      exact (VR.to (G := plain) (G' := G) ⟨by have := S.le.opq; exact this.symm, rfl, rfl⟩ v0 v').2 hvr
  · rename_i c hh hev
    split at hr
    · rename_i d e hk
      split at hr
      · rename_i t a t' a' hd he'
        simp only [Bool.and_eq_true, Bool.not_eq_true'] at hr
        obtain ⟨⟨⟨⟨⟨⟨r1, r2⟩, r3⟩, r4⟩, r5⟩, r6⟩, r7⟩ := hr
        have ede : d = e := by
          obtain ⟨dv, dr, dg⟩ := d
          obtain ⟨ev, er, eg⟩ := e
          simp only at hd he' r4 r5 r6 r7
          rw [hd, he', r4, r5, r6, r7, Nat.eq_of_beq_eq_true r1, Array.eq_empty_of_size_eq_zero (Nat.eq_of_beq_eq_true r2), Array.eq_empty_of_size_eq_zero (Nat.eq_of_beq_eq_true r3)]
        subst ede
        have kj := hs _ _ hev
        intro o h1 ho e0 ps vs w n he ht hv
        obtain ⟨HE, HV⟩ := start o h1 ho e0 ps vs w he ht hv
        refine kj _ vs w n _ rfl HE HV (fun e' w' S => ⟨?_, S.below HE⟩)
        rw [hk]
        rfl
      · cases hr
    · cases hr
  · cases hr


/-- A call with a function value that has caught a row: f(a, b, F with the row). -/
structure KF where
  f : Nat
  a : AV plain
  b : AV plain
  fn : Nat
  row : List (AV plain)
  res : AV plain
def KF.free (k : KF) : Bool := k.a.free && k.b.free && AV.frees k.row && k.res.free
def ConF (P : Program) (F0 : Fence) (H : (Nat → Value) → Prop) (k : KF) : Prop :=
  ∀ (o : Nat → Value), H o → ∀ (e0 : Env plain) (va vb : Value) (w : World) (n g : Nat), e0.opq = o → VR e0 k.a va → VR e0 k.b vb → g < w.heap.size →
    (∀ (j : Nat) (c : AV plain), k.row[j]? = some c → ∃ v, w.cell? ⟨g, j, none⟩ = some v ∧ VR e0 c v) →
    CallsIn F0 n P k.f #[va, vb, .func (.func k.fn) #[] #[.pointer (some ⟨g, 0, none⟩)]] w fun en w' => (∃ v', en = .returned v' ∧ VR e0 k.res v') ∧ Below w.heap.size w w'
/-- The row is there, the call's own. -/
def ownRow {G : Ctx} (h : AH G) (id : Nat) (row : List (AV plain)) : Bool :=
  match h.objs.get id with
  | some (.cells us (some _)) => samesA us (AV.tos G row)
  | _ => false
def ansF (G : Ctx) (k : KF) : Oracle G := fun f args h =>
  match args with
  | [a, b, .func (.func F) [] [.ptr id 0]] => cond (Nat.beq k.f f && (Nat.beq k.fn F && (sameA (k.a.to G) a && (sameA (k.b.to G) b && ownRow h id k.row)))) (some (.ret (k.res.to G) h)) none
  | _ => none
theorem AV.tos_map {G : Ctx} : ∀ (l : List (AV plain)) (i : Nat), (AV.tos G l)[i]? = (l[i]?).map (AV.to G) := fun l i => AV.tos_at l i
theorem frees_at : ∀ {l : List (AV plain)} {j : Nat} {c : AV plain}, AV.frees l = true → l[j]? = some c → c.free = true
  | [], j, c, _, h => by simp at h
  | b :: r, 0, c, hf, h => by simp at h; subst h; simp only [AV.frees, Bool.and_eq_true] at hf; exact hf.1
  | b :: r, j + 1, c, hf, h => by simp only [AV.frees, Bool.and_eq_true] at hf; exact frees_at hf.2 (by simpa using h)
theorem ansF_ok {P : Program} {F0 : Fence} {G : Ctx} {H : (Nat → Value) → Prop} {k : KF} (hG : ∀ o, G.holds o → H o) (hf : k.free = true) (hC : ConF P F0 H k) : (ansF G k).ok P F0 := by
  intro f args h r hr
  unfold ansF at hr
  split at hr
  · rename_i a b F id
    cases hc : (Nat.beq k.f f && (Nat.beq k.fn F && (sameA (k.a.to G) a && (sameA (k.b.to G) b && ownRow h id k.row)))) with
    | false => rw [hc] at hr; cases hr
    | true =>
      rw [hc] at hr
      cases hr
      simp only [Bool.and_eq_true] at hc
      obtain ⟨q1, q2, q3, q4, q5⟩ := hc
      have e1 := Nat.eq_of_beq_eq_true q1
      have e2 := Nat.eq_of_beq_eq_true q2
      have e3 := sameA_eq q3
      have e4 := sameA_eq q4
      subst e1 e2 e3 e4
      simp only [KF.free, Bool.and_eq_true] at hf
      obtain ⟨⟨⟨f1, f2⟩, f3⟩, f4⟩ := hf
      intro e vs w n R hE Hh hv hR
      -- the arguments
      simp only [VRs] at hv
      obtain ⟨va, r1, h1, ha, vb, r2, rfl, hb, vf, r3, rfl, hfn, rfl⟩ := hv
      simp only [VR, VRs] at hfn
      obtain ⟨xs, ys, rfl, hxs, hys⟩ := hfn
      obtain ⟨vp, r4, hy, ⟨bk, off, hφ, rfl⟩, rfl⟩ := hys
      -- the row
      unfold ownRow at q5
      split at q5
      · rename_i us g hob
        have hus := samesA_eq q5
        subst hus
        obtain ⟨bk', k1, k2, cc, t, k3, k4, k5⟩ := Hh.obj _ _ hob
        rw [hφ] at k1
        cases k1
        have e0 : Env plain := ⟨e.φ, e.opq, e.base, e.room, e.fnok, e.one, plain_holds _⟩
        let ep : Env plain := ⟨e.φ, e.opq, e.base, e.room, e.fnok, e.one, plain_holds _⟩
        have al : ep.alike e := ⟨rfl, rfl, rfl⟩
        have hvs : vs = #[va, vb, .func (.func k.fn) #[] #[.pointer (some ⟨bk, 0, none⟩)]] := by
          have e5 : xs = #[] := by simpa using hxs
          have e6 : ys = #[.pointer (some ⟨bk, 0 + 0, none⟩)] := by apply Array.toList_inj.1; simpa using hy
          subst e5 e6
          apply Array.toList_inj.1
          simpa using h1
        rw [hvs]
        refine (hC e.opq (hG _ e.holds) ep va vb w n bk rfl ((VR.to al _ _).2 ha) ((VR.to al _ _).2 hb) (Array.getElem?_eq_some_iff.1 k3).1 (fun j c hc => ?_)).mono fun en w' ⟨⟨v', h3, h4⟩, h5⟩ => ?_
        · obtain ⟨v, hv1, hv2⟩ := k5 j (c.to G) (by rw [AV.tos_at, hc]; rfl)
          exact ⟨v, by simp only [World.cell?, k3]; exact hv1, (VR.to al c v).2 hv2⟩
        · rw [h3]
          exact hR e v' w' (St.of_below Hh h5) ((VR.to al _ _).1 h4)
      · cases q5
  · cases hr
/-- The one or the other. -/
theorem both_ok {P : Program} {F0 : Fence} {G : Ctx} {O O' : Oracle G} (h : O.ok P F0) (h' : O'.ok P F0) : Oracle.ok P F0 (fun f args hh => answerK (O' f args hh) (O f args hh)) := by
  intro f args hh r hr
  change answerK _ (O f args hh) = some r at hr
  cases h1 : O f args hh with
  | none => rw [h1] at hr; exact h' _ _ _ _ hr
  | some k => rw [h1] at hr; cases hr; exact h _ _ _ _ h1
end Go.Ev
end

