import Derived.Test.YtdpegcimhhegmaaRoI
set_option linter.unusedVariables false
set_option linter.unusedSimpArgs false
set_option linter.unusedSectionVars false
noncomputable section
set_option maxRecDepth 1000000
set_option maxHeartbeats 0
namespace Go.Ev.Gas
open Go.RowKit Go.Ev.Num
theorem up_to {r : List (SX × SX × Bool)} {p q : (Nat → Value) → Prop} {o : Nat → Value} (h : (gValid (cavL ++ stL ++ r) p).holds o) (hq : p o → q o) : (gValid (cavL ++ stL) q).holds o :=
  ⟨fun x k lo hi hm => (by cases hm), fun x y b hm => h.lts x y b (List.mem_append_left _ hm), fun x y b hm => (by cases hm), hq h.extra⟩
def At (X : (Nat → Int) → Prop) (o : Nat → Value) : Prop := ∃ y, NumZ y o ∧ X y
noncomputable def uo : List (SX × SX × Bool) := [(.v 34, .c 1, true)]
noncomputable def up : List (SX × SX × Bool) := [(.v 34, .c 1, false), (.c 1000000, .v 34, true)]
theorem d11_1 : isRes (kYes 11 [rawC, rawS, rawP, rv 34]).res (runK P L true [kNo 54 rawC, kNo 19 rawC, k21] [] (gNo cavP) (kYes 11 [rawC, rawS, rawP, rv 34])) = true := by decide +kernel
theorem c11_1 : Con P (Fence.there P) (gNo cavP).holds (kYes 11 [rawC, rawS, rawP, rv 34]) := con_no (H := fun o => ¬ cavP (zo o)) (two_ok (by decide +kernel) (by decide +kernel) no54 no19) (fun o h => h.extra) d11_1
theorem d11_2 : isRes (kYes 11 [cavA, rawS, rawP, rv 34]).res (runK P L true [kNo 55 rawS, kNo 20 rawS, k21] [] (gValid cavL (fun o => ¬ stP (zo o))) (kYes 11 [cavA, rawS, rawP, rv 34])) = true := by decide +kernel
theorem c11_2 : Con P (Fence.there P) (gValid cavL (fun o => ¬ stP (zo o))).holds (kYes 11 [cavA, rawS, rawP, rv 34]) := con_no (H := fun o => ¬ stP (zo o)) (two_ok (by decide +kernel) (by decide +kernel) no55 no20) (fun o h => h.extra) d11_2
noncomputable def G11_ob : Ctx := gValid (cavL ++ stL ++ uo) (fun o => ¬ poiP (zo o))
theorem d11_ob : isRes (kYes 11 [cavA, stA, rawP, rv 34]).res (runK P L true [kNo 73 rawP, kNo 40 rawP, k21] [] G11_ob (kYes 11 [cavA, stA, rawP, rv 34])) = true := by decide +kernel
theorem c11_ob : Con P (Fence.there P) G11_ob.holds (kYes 11 [cavA, stA, rawP, rv 34]) := con_no (H := G11_ob.holds) (List.forall_mem_cons.2 ⟨⟨by decide +kernel, no73.mono fun o h => h.extra⟩, (List.forall_mem_cons.2 ⟨⟨by decide +kernel, no40.mono fun o h => h.extra⟩, kn_ok⟩)⟩) (fun o h => h) d11_ob
noncomputable def G11_oq : Ctx := gValid (cavL ++ stL ++ uo) (fun o => At Xa o ∧ At Xc o)
theorem d11_oq : isRes (kYes 11 [cavA, stA, lotP, rv 34]).res (runK P L true [k42, k46, k44q, k47q, k21] [] G11_oq (kYes 11 [cavA, stA, lotP, rv 34])) = true := by decide +kernel
theorem c11_oq : Con P (Fence.there P) G11_oq.holds (kYes 11 [cavA, stA, lotP, rv 34]) := con_no (H := G11_oq.holds) (List.forall_mem_cons.2 ⟨⟨by decide +kernel, cG42.mono fun o h => up_to h (fun p => p.1)⟩, (List.forall_mem_cons.2 ⟨⟨by decide +kernel, cRef46.mono fun o h => h.extra.1⟩, (List.forall_mem_cons.2 ⟨⟨by decide +kernel, cG44q.mono fun o h => up_to h (fun p => p.2)⟩, (List.forall_mem_cons.2 ⟨⟨by decide +kernel, c47q.mono fun o h => h.extra.2⟩, kn_ok⟩)⟩)⟩)⟩) (fun o h => h) d11_oq
noncomputable def G11_on : Ctx := gValid (cavL ++ stL ++ uo) (fun o => At Xa o ∧ At Xd o)
theorem d11_on : isRes (kYes 11 [cavA, stA, lotP, rv 34]).res (runK P L true [k42, k46, k44n, k47n, k21] [] G11_on (kYes 11 [cavA, stA, lotP, rv 34])) = true := by decide +kernel
theorem c11_on : Con P (Fence.there P) G11_on.holds (kYes 11 [cavA, stA, lotP, rv 34]) := con_no (H := G11_on.holds) (List.forall_mem_cons.2 ⟨⟨by decide +kernel, cG42.mono fun o h => up_to h (fun p => p.1)⟩, (List.forall_mem_cons.2 ⟨⟨by decide +kernel, cRef46.mono fun o h => h.extra.1⟩, (List.forall_mem_cons.2 ⟨⟨by decide +kernel, cG44n.mono fun o h => up_to h (fun p => p.2)⟩, (List.forall_mem_cons.2 ⟨⟨by decide +kernel, c47n.mono fun o h => h.extra.2⟩, kn_ok⟩)⟩)⟩)⟩) (fun o h => h) d11_on
noncomputable def G11_pb : Ctx := gValid (cavL ++ stL ++ up) (fun o => ¬ poiP (zo o))
theorem d11_pb : isRes (kYes 11 [cavA, stA, rawP, rv 34]).res (runK P L true [kNo 73 rawP, kNo 40 rawP, k21] [] G11_pb (kYes 11 [cavA, stA, rawP, rv 34])) = true := by decide +kernel
theorem c11_pb : Con P (Fence.there P) G11_pb.holds (kYes 11 [cavA, stA, rawP, rv 34]) := con_no (H := G11_pb.holds) (List.forall_mem_cons.2 ⟨⟨by decide +kernel, no73.mono fun o h => h.extra⟩, (List.forall_mem_cons.2 ⟨⟨by decide +kernel, no40.mono fun o h => h.extra⟩, kn_ok⟩)⟩) (fun o h => h) d11_pb
noncomputable def G11_pq : Ctx := gValid (cavL ++ stL ++ up) (fun o => At Xa o ∧ At Xc o)
theorem d11_pq : isRes (kYes 11 [cavA, stA, lotP, rv 34]).res (runK P L true [k42, k46, k44q, k47q, k21] [] G11_pq (kYes 11 [cavA, stA, lotP, rv 34])) = true := by decide +kernel
theorem c11_pq : Con P (Fence.there P) G11_pq.holds (kYes 11 [cavA, stA, lotP, rv 34]) := con_no (H := G11_pq.holds) (List.forall_mem_cons.2 ⟨⟨by decide +kernel, cG42.mono fun o h => up_to h (fun p => p.1)⟩, (List.forall_mem_cons.2 ⟨⟨by decide +kernel, cRef46.mono fun o h => h.extra.1⟩, (List.forall_mem_cons.2 ⟨⟨by decide +kernel, cG44q.mono fun o h => up_to h (fun p => p.2)⟩, (List.forall_mem_cons.2 ⟨⟨by decide +kernel, c47q.mono fun o h => h.extra.2⟩, kn_ok⟩)⟩)⟩)⟩) (fun o h => h) d11_pq
noncomputable def G11_pn : Ctx := gValid (cavL ++ stL ++ up) (fun o => At Xa o ∧ At Xd o)
theorem d11_pn : isRes (kYes 11 [cavA, stA, lotP, rv 34]).res (runK P L true [k42, k46, k44n, k47n, k21] [] G11_pn (kYes 11 [cavA, stA, lotP, rv 34])) = true := by decide +kernel
theorem c11_pn : Con P (Fence.there P) G11_pn.holds (kYes 11 [cavA, stA, lotP, rv 34]) := con_no (H := G11_pn.holds) (List.forall_mem_cons.2 ⟨⟨by decide +kernel, cG42.mono fun o h => up_to h (fun p => p.1)⟩, (List.forall_mem_cons.2 ⟨⟨by decide +kernel, cRef46.mono fun o h => h.extra.1⟩, (List.forall_mem_cons.2 ⟨⟨by decide +kernel, cG44n.mono fun o h => up_to h (fun p => p.2)⟩, (List.forall_mem_cons.2 ⟨⟨by decide +kernel, c47n.mono fun o h => h.extra.2⟩, kn_ok⟩)⟩)⟩)⟩) (fun o h => h) d11_pn
noncomputable def G11_vb : Ctx := gValid (cavL ++ stL ++ []) (fun o => ¬ poiP (zo o) ∧ At Xb o)
theorem d11_vb : isRes (kYes 11 [cavA, stA, rawP, iv 34 1 1000000]).res (runK P L true [kNo 73 rawP, kNo 40 rawP, k43, k45, k21] [] G11_vb (kYes 11 [cavA, stA, rawP, iv 34 1 1000000])) = true := by decide +kernel
theorem c11_vb : Con P (Fence.there P) G11_vb.holds (kYes 11 [cavA, stA, rawP, iv 34 1 1000000]) := con_no (H := G11_vb.holds) (List.forall_mem_cons.2 ⟨⟨by decide +kernel, no73.mono fun o h => h.extra.1⟩, (List.forall_mem_cons.2 ⟨⟨by decide +kernel, no40.mono fun o h => h.extra.1⟩, (List.forall_mem_cons.2 ⟨⟨by decide +kernel, cG43.mono fun o h => up_to h (fun p => p.2)⟩, (List.forall_mem_cons.2 ⟨⟨by decide +kernel, cRef45.mono fun o h => h.extra.2⟩, kn_ok⟩)⟩)⟩)⟩) (fun o h => h) d11_vb
noncomputable def G11_vq : Ctx := gValid (cavL ++ stL ++ []) (fun o => At Xa o ∧ At Xb o ∧ At Xc o)
theorem d11_vq : isRes (kYes 11 [cavA, stA, lotP, iv 34 1 1000000]).res (runK P L true [k42, k46, k43, k45, k44q, k47q, k21] [] G11_vq (kYes 11 [cavA, stA, lotP, iv 34 1 1000000])) = true := by decide +kernel
theorem c11_vq : Con P (Fence.there P) G11_vq.holds (kYes 11 [cavA, stA, lotP, iv 34 1 1000000]) := con_no (H := G11_vq.holds) (List.forall_mem_cons.2 ⟨⟨by decide +kernel, cG42.mono fun o h => up_to h (fun p => p.1)⟩, (List.forall_mem_cons.2 ⟨⟨by decide +kernel, cRef46.mono fun o h => h.extra.1⟩, (List.forall_mem_cons.2 ⟨⟨by decide +kernel, cG43.mono fun o h => up_to h (fun p => p.2.1)⟩, (List.forall_mem_cons.2 ⟨⟨by decide +kernel, cRef45.mono fun o h => h.extra.2.1⟩, (List.forall_mem_cons.2 ⟨⟨by decide +kernel, cG44q.mono fun o h => up_to h (fun p => p.2.2)⟩, (List.forall_mem_cons.2 ⟨⟨by decide +kernel, c47q.mono fun o h => h.extra.2.2⟩, kn_ok⟩)⟩)⟩)⟩)⟩)⟩) (fun o h => h) d11_vq
noncomputable def G11_vn : Ctx := gValid (cavL ++ stL ++ []) (fun o => At Xa o ∧ At Xb o ∧ At Xd o)
theorem d11_vn : isRes (kYes 11 [cavA, stA, lotP, iv 34 1 1000000]).res (runK P L true [k42, k46, k43, k45, k44n, k47n, k21] [] G11_vn (kYes 11 [cavA, stA, lotP, iv 34 1 1000000])) = true := by decide +kernel
theorem c11_vn : Con P (Fence.there P) G11_vn.holds (kYes 11 [cavA, stA, lotP, iv 34 1 1000000]) := con_no (H := G11_vn.holds) (List.forall_mem_cons.2 ⟨⟨by decide +kernel, cG42.mono fun o h => up_to h (fun p => p.1)⟩, (List.forall_mem_cons.2 ⟨⟨by decide +kernel, cRef46.mono fun o h => h.extra.1⟩, (List.forall_mem_cons.2 ⟨⟨by decide +kernel, cG43.mono fun o h => up_to h (fun p => p.2.1)⟩, (List.forall_mem_cons.2 ⟨⟨by decide +kernel, cRef45.mono fun o h => h.extra.2.1⟩, (List.forall_mem_cons.2 ⟨⟨by decide +kernel, cG44n.mono fun o h => up_to h (fun p => p.2.2)⟩, (List.forall_mem_cons.2 ⟨⟨by decide +kernel, c47n.mono fun o h => h.extra.2.2⟩, kn_ok⟩)⟩)⟩)⟩)⟩)⟩) (fun o h => h) d11_vn
/-- The theorem of rooms. -/
theorem rooms {z : Nat → Int} (hz : ints z) : Yes 11 #[cavV z, stV z, poV z, vi (z 34)] := by
  by_cases hc : cavP z
  · by_cases hs : stP z
    · obtain ⟨m, hm⟩ := most_is zl z
      obtain ⟨m', hm'⟩ := most_is zw z
      have low : ∀ (r : Int) (i : Nat), i < 300 → nR z m m' r i = z i := fun r i hi => by
        unfold nR; split <;> first | omega | rfl
      have hzy : ∀ r : Int, -9223372036854775808 ≤ nR z m m' r 34 ∧ nR z m m' r 34 ≤ 9223372036854775807 := fun r => hz 34
      have base : ∀ r : Int, LtsP (ov (nR z m m' r)) (cavL ++ stL) := fun r => lts_cs (z := nR z m m' r) hc hs
      have nv : ∀ r : Int, NumZ (nR z m m' r) (ov (nR z m m' r)) := fun r j _ => rfl
      have rv34 : ∀ r : Int, VR (envZ (nR z m m' r)) (rv 34) (vi (z 34)) := fun r => by
        simp only [rv, VR, SX.eval, envZ, ov, valI]
        exact ⟨rfl, hz 34⟩
      have rawp : ∀ r : Int, VR (envZ (nR z m m' r)) rawP (poV z) := fun r => by
        have e : ∀ i, i < 300 → VR (envZ (nR z m m' r)) (rv i) (vi (z i)) := fun i hi => by
          simp only [rv, VR, SX.eval, envZ, ov, valI, low r i hi]
          exact ⟨trivial, hz i⟩
        exact vr_agg (vrs_cons (e 30 (by omega)) (vrs_cons (e 31 (by omega)) (vrs_cons (e 32 (by omega)) (vrs_cons (e 33 (by omega)) vrs_nil))))
      have go : ∀ {G : Ctx} {a b : AV plain} (c : Con P (Fence.there P) G.holds (kYes 11 [cavA, stA, a, b])) (r : Int), G.holds (ov (nR z m m' r)) → VR (envZ (nR z m m' r)) a (poV z) → VR (envZ (nR z m m' r)) b (vi (z 34)) → Yes 11 #[cavV z, stV z, poV z, vi (z 34)] := fun c r h ha hb =>
        yes_of c (nR z m m' r) h _ (four (vr_cav (z := nR z m m' r) hc) (vr_st (z := nR z m m' r) hs) ha hb)
      by_cases hl : poiP z
      · have xa : ∀ r : Int, At Xa (ov (nR z m m' r)) := fun r => ⟨_, nv r, z, m, m', r, hc, hs, hl, hm, rfl⟩
        have lp : ∀ r : Int, VR (envZ (nR z m m' r)) lotP (poV z) := fun r => vr_po (z := nR z m m' r) hl
        rcases purge_total z with ⟨k, hk⟩ | hn
        · have xc : At Xc (ov (nR z m m' k)) := ⟨_, nv k, z, m, m', k, hc, hs, hl, hk, rfl⟩
          by_cases u1 : z 34 < 1
          · exact go c11_oq k (holds_of trivial (lts_app (base k) ⟨u1, trivial⟩) trivial ⟨xa k, xc⟩) (lp k) (rv34 k)
          by_cases u2 : 1000000 < z 34
          · exact go c11_pq k (holds_of trivial (lts_app (base k) ⟨(show 1 ≤ z 34 by omega), u2, trivial⟩) trivial ⟨xa k, xc⟩) (lp k) (rv34 k)
          · have hu : unP z := ⟨by omega, by omega⟩
            exact go c11_vq k (holds_of trivial (lts_app (base k) trivial) trivial ⟨xa k, ⟨_, nv k, z, m, m', k, hc, hs, hu, hm', rfl⟩, xc⟩) (lp k) (vr_iv (nR z m m' k) hu.1 hu.2)
        · have xd : At Xd (ov (nR z m m' 0)) := ⟨_, nv 0, z, m, m', 0, hc, hs, hl, hn, rfl⟩
          by_cases u1 : z 34 < 1
          · exact go c11_on 0 (holds_of trivial (lts_app (base 0) ⟨u1, trivial⟩) trivial ⟨xa 0, xd⟩) (lp 0) (rv34 0)
          by_cases u2 : 1000000 < z 34
          · exact go c11_pn 0 (holds_of trivial (lts_app (base 0) ⟨(show 1 ≤ z 34 by omega), u2, trivial⟩) trivial ⟨xa 0, xd⟩) (lp 0) (rv34 0)
          · have hu : unP z := ⟨by omega, by omega⟩
            exact go c11_vn 0 (holds_of trivial (lts_app (base 0) trivial) trivial ⟨xa 0, ⟨_, nv 0, z, m, m', 0, hc, hs, hu, hm', rfl⟩, xd⟩) (lp 0) (vr_iv (nR z m m' 0) hu.1 hu.2)
      · have hb : ¬ poiP (zo (ov (nR z m m' 0))) := hl
        by_cases u1 : z 34 < 1
        · exact go c11_ob 0 (holds_of trivial (lts_app (base 0) ⟨u1, trivial⟩) trivial hb) (rawp 0) (rv34 0)
        by_cases u2 : 1000000 < z 34
        · exact go c11_pb 0 (holds_of trivial (lts_app (base 0) ⟨(show 1 ≤ z 34 by omega), u2, trivial⟩) trivial hb) (rawp 0) (rv34 0)
        · have hu : unP z := ⟨by omega, by omega⟩
          exact go c11_vb 0 (holds_of trivial (lts_app (base 0) trivial) trivial ⟨hb, ⟨_, nv 0, z, m, m', 0, hc, hs, hu, hm', rfl⟩⟩) (rawp 0) (vr_iv (nR z m m' 0) hu.1 hu.2)
    · exact yes_of c11_2 z (no_holds (lts_cav hc) hs) _ (four (vr_cav hc) (raw_s hz) (raw_p hz) (vr_rv hz 34))
  · exact yes_of c11_1 z (holds_of (G := gNo cavP) trivial trivial trivial hc) _ (four (raw_c hz) (raw_s hz) (raw_p hz) (vr_rv hz 34))
end Go.Ev.Gas
end

