import Derived.Test.YtdpegcimhhegmaaStC
import Derived.Laws.AppendOwnNone
set_option linter.unusedVariables false
set_option linter.unusedSimpArgs false
set_option linter.unusedSectionVars false
section
set_option maxRecDepth 100000
namespace Go.Ev.Gas
open Go.RowKit Go.Ev.Num Go.Proofs
/-! ### GasChains: the early ways out -/
set_option maxHeartbeats 4000000 in
theorem law15_a (c s : Nat → Int) (w : World) (f : Int) (a : Option Addr) (n cap : Nat) (h1 : 12 < n) (hm : n ≤ 9223372036854775807) : Calls Try.prog 15 #[cavV c, sV s, .slice a n cap, .int .i64 f] w fun e w' => e = .returned (.bool true) ∧ Below w.heap.size w w' := by
  have g1 : (12 : Int) < (n : Int) := by omega
  have HB := Lib.hid (fun O O' => ((Below.refl w.heap.size w).alloc (Nat.le_refl _) O).alloc (by simp) O')
  have HK := Lib.hid known_says
  simp only [cavV, sV]
  go_enter Try.func15, Try.ntmps15
  go_wp2_with fail
  refine (HK.out _).mono ?_
  rintro e x1 ⟨rfl, hb1⟩
  obtain ⟨hc1, hf1⟩ := bcell hb1
  have hz1 := hb1.size
  simp at hz1
  have n1 : w.heap.size < x1.heap.size := by omega
  have o1 : w.heap.size + 1 < x1.heap.size := by omega
  have B1 := (HB.out _ _).trans (hb1.mono (by simp; omega))
  go_wp2
  go_ret
  exact ⟨rfl, B1⟩
set_option maxHeartbeats 4000000 in
theorem law15_c (c s : Nat → Int) (w : World) (f : Int) (a : Option Addr) (n cap : Nat) (hn : n ≤ 12) (h2 : Says 19 (cavV c) false) : Calls Try.prog 15 #[cavV c, sV s, .slice a n cap, .int .i64 f] w fun e w' => e = .returned (.bool true) ∧ Below w.heap.size w w' := by
  have g1 : ¬ (12 : Int) < (n : Int) := by omega
  have H2 := Lib.hid h2
  have HB := Lib.hid (fun O O' => ((Below.refl w.heap.size w).alloc (Nat.le_refl _) O).alloc (by simp) O')
  have HK := Lib.hid known_says
  clear h2
  simp only [Says, cavV, sV] at H2 ⊢
  go_enter Try.func15, Try.ntmps15
  go_wp2_with fail
  refine (H2.out _).mono ?_
  rintro e x1 ⟨rfl, hb1⟩
  obtain ⟨hc1, hf1⟩ := bcell hb1
  have hz1 := hb1.size
  simp at hz1
  have n1 : w.heap.size < x1.heap.size := by omega
  have o1 : w.heap.size + 1 < x1.heap.size := by omega
  have B1 := (HB.out _ _).trans (hb1.mono (by simp; omega))
  go_wp2_with fail
  refine (HK.out _).mono ?_
  rintro e x2 ⟨rfl, hb2⟩
  obtain ⟨hc2, hf2⟩ := bcell hb2
  have hz2 := hb2.size
  have n2 : w.heap.size < x2.heap.size := by omega
  have o2 : w.heap.size + 1 < x2.heap.size := by omega
  have B2 := B1.trans (hb2.mono (by omega))
  go_wp2
  go_ret
  exact ⟨rfl, B2⟩
set_option maxHeartbeats 4000000 in
theorem law15_s (c s : Nat → Int) (w : World) (f : Int) (a : Option Addr) (n cap : Nat) (hn : n ≤ 12) (h2 : Says 19 (cavV c) true) (h4 : Says 20 (sV s) false) : Calls Try.prog 15 #[cavV c, sV s, .slice a n cap, .int .i64 f] w fun e w' => e = .returned (.bool true) ∧ Below w.heap.size w w' := by
  have g1 : ¬ (12 : Int) < (n : Int) := by omega
  have H2 := Lib.hid h2
  have H3 := Lib.hid h4
  have HB := Lib.hid (fun O O' => ((Below.refl w.heap.size w).alloc (Nat.le_refl _) O).alloc (by simp) O')
  have HK := Lib.hid known_says
  clear h2 h4
  simp only [Says, cavV, sV] at H2 H3 ⊢
  go_enter Try.func15, Try.ntmps15
  go_wp2_with fail
  refine (H2.out _).mono ?_
  rintro e x1 ⟨rfl, hb1⟩
  obtain ⟨hc1, hf1⟩ := bcell hb1
  have hz1 := hb1.size
  simp at hz1
  have n1 : w.heap.size < x1.heap.size := by omega
  have o1 : w.heap.size + 1 < x1.heap.size := by omega
  have B1 := (HB.out _ _).trans (hb1.mono (by simp; omega))
  go_wp2_with fail
  refine (H3.out _).mono ?_
  rintro e x2 ⟨rfl, hb2⟩
  obtain ⟨hc2, hf2⟩ := bcell hb2
  have hz2 := hb2.size
  have n2 : w.heap.size < x2.heap.size := by omega
  have o2 : w.heap.size + 1 < x2.heap.size := by omega
  have B2 := B1.trans (hb2.mono (by omega))
  go_wp2_with fail
  refine (HK.out _).mono ?_
  rintro e x3 ⟨rfl, hb3⟩
  obtain ⟨hc3, hf3⟩ := bcell hb3
  have hz3 := hb3.size
  have n3 : w.heap.size < x3.heap.size := by omega
  have o3 : w.heap.size + 1 < x3.heap.size := by omega
  have B3 := B2.trans (hb3.mono (by omega))
  go_wp2
  go_ret
  exact ⟨rfl, B3⟩
set_option maxHeartbeats 4000000 in
theorem law15_o (c s : Nat → Int) (w : World) (f : Int) (a : Option Addr) (n cap : Nat) {O : Nat → Nat → Int} {k : Nat} (hn : n ≤ 12) (iO : ∀ i, ints (O i)) (hk : FirstBad O n k) (hkn : k < n) (h2 : Says 19 (cavV c) true) (h4 : Says 20 (sV s) true) (h5 : SL 10 w (.slice a n cap) n O) : Calls Try.prog 15 #[cavV c, sV s, .slice a n cap, .int .i64 f] w fun e w' => e = .returned (.bool true) ∧ Below w.heap.size w w' := by
  have g1 : ¬ (12 : Int) < (n : Int) := by omega
  have H4 := Lib.hid (fun (w' : World) (h' : SL 10 w' (.slice a n cap) n O) => ops36_any h' iO hk false (by rw [decide_eq_false (by omega)]))
  have H2 := Lib.hid h2
  have H3 := Lib.hid h4
  have HS := Lib.hid h5
  have HB := Lib.hid (fun O O' => ((Below.refl w.heap.size w).alloc (Nat.le_refl _) O).alloc (by simp) O')
  have HK := Lib.hid known_says
  clear h2 h4 h5 hk iO
  simp only [Says, cavV, sV] at H2 H3 ⊢
  go_enter Try.func15, Try.ntmps15
  go_wp2_with fail
  refine (H2.out _).mono ?_
  rintro e x1 ⟨rfl, hb1⟩
  obtain ⟨hc1, hf1⟩ := bcell hb1
  have hz1 := hb1.size
  simp at hz1
  have n1 : w.heap.size < x1.heap.size := by omega
  have o1 : w.heap.size + 1 < x1.heap.size := by omega
  have B1 := (HB.out _ _).trans (hb1.mono (by simp; omega))
  go_wp2_with fail
  refine (H3.out _).mono ?_
  rintro e x2 ⟨rfl, hb2⟩
  obtain ⟨hc2, hf2⟩ := bcell hb2
  have hz2 := hb2.size
  have n2 : w.heap.size < x2.heap.size := by omega
  have o2 : w.heap.size + 1 < x2.heap.size := by omega
  have B2 := B1.trans (hb2.mono (by omega))
  go_wp2_with fail
  refine (H4.out _ (HS.out.below B2)).mono ?_
  rintro e x3 ⟨rfl, hb3⟩
  obtain ⟨hc3, hf3⟩ := bcell hb3
  have hz3 := hb3.size
  have n3 : w.heap.size < x3.heap.size := by omega
  have o3 : w.heap.size + 1 < x3.heap.size := by omega
  have B3 := B2.trans (hb3.mono (by omega))
  go_wp2_with fail
  refine (HK.out _).mono ?_
  rintro e x4 ⟨rfl, hb4⟩
  obtain ⟨hc4, hf4⟩ := bcell hb4
  have hz4 := hb4.size
  have n4 : w.heap.size < x4.heap.size := by omega
  have o4 : w.heap.size + 1 < x4.heap.size := by omega
  have B4 := B3.trans (hb4.mono (by omega))
  go_wp2
  go_ret
  exact ⟨rfl, B4⟩
set_option maxHeartbeats 4000000 in
theorem law15_n (c s : Nat → Int) (w : World) (f : Int) (a : Option Addr) (n cap : Nat) {O : Nat → Nat → Int} (hn : n ≤ 12) (iO : ∀ i, ints (O i)) (hk : FirstBad O n n) (h2 : Says 19 (cavV c) true) (h4 : Says 20 (sV s) true) (h5 : SL 10 w (.slice a n cap) n O) (hf : f < 0) : Calls Try.prog 15 #[cavV c, sV s, .slice a n cap, .int .i64 f] w fun e w' => e = .returned (.bool true) ∧ Below w.heap.size w w' := by
  have g1 : ¬ (12 : Int) < (n : Int) := by omega
  have H4 := Lib.hid (fun (w' : World) (h' : SL 10 w' (.slice a n cap) n O) => ops36_any h' iO hk true (by simp))
  have H2 := Lib.hid h2
  have H3 := Lib.hid h4
  have HS := Lib.hid h5
  have HB := Lib.hid (fun O O' => ((Below.refl w.heap.size w).alloc (Nat.le_refl _) O).alloc (by simp) O')
  have HK := Lib.hid known_says
  clear h2 h4 h5 hk iO
  simp only [Says, cavV, sV] at H2 H3 ⊢
  go_enter Try.func15, Try.ntmps15
  go_wp2_with fail
  refine (H2.out _).mono ?_
  rintro e x1 ⟨rfl, hb1⟩
  obtain ⟨hc1, hf1⟩ := bcell hb1
  have hz1 := hb1.size
  simp at hz1
  have n1 : w.heap.size < x1.heap.size := by omega
  have o1 : w.heap.size + 1 < x1.heap.size := by omega
  have B1 := (HB.out _ _).trans (hb1.mono (by simp; omega))
  go_wp2_with fail
  refine (H3.out _).mono ?_
  rintro e x2 ⟨rfl, hb2⟩
  obtain ⟨hc2, hf2⟩ := bcell hb2
  have hz2 := hb2.size
  have n2 : w.heap.size < x2.heap.size := by omega
  have o2 : w.heap.size + 1 < x2.heap.size := by omega
  have B2 := B1.trans (hb2.mono (by omega))
  go_wp2_with fail
  refine (H4.out _ (HS.out.below B2)).mono ?_
  rintro e x3 ⟨rfl, hb3⟩
  obtain ⟨hc3, hf3⟩ := bcell hb3
  have hz3 := hb3.size
  have n3 : w.heap.size < x3.heap.size := by omega
  have o3 : w.heap.size + 1 < x3.heap.size := by omega
  have B3 := B2.trans (hb3.mono (by omega))
  go_wp2_with fail
  refine (HK.out _).mono ?_
  rintro e x4 ⟨rfl, hb4⟩
  obtain ⟨hc4, hf4⟩ := bcell hb4
  have hz4 := hb4.size
  have n4 : w.heap.size < x4.heap.size := by omega
  have o4 : w.heap.size + 1 < x4.heap.size := by omega
  have B4 := B3.trans (hb4.mono (by omega))
  go_wp2
  go_ret
  exact ⟨rfl, B4⟩
set_option maxHeartbeats 4000000 in
theorem law15_m (c s : Nat → Int) (w : World) (f : Int) (a : Option Addr) (n cap : Nat) {O : Nat → Nat → Int} (hn : n ≤ 12) (iO : ∀ i, ints (O i)) (hk : FirstBad O n n) (h2 : Says 19 (cavV c) true) (h4 : Says 20 (sV s) true) (h5 : SL 10 w (.slice a n cap) n O) (hf : (n : Int) < f) : Calls Try.prog 15 #[cavV c, sV s, .slice a n cap, .int .i64 f] w fun e w' => e = .returned (.bool true) ∧ Below w.heap.size w w' := by
  have g1 : ¬ (12 : Int) < (n : Int) := by omega
  have g2 : ¬ f < 0 := by omega
  have H4 := Lib.hid (fun (w' : World) (h' : SL 10 w' (.slice a n cap) n O) => ops36_any h' iO hk true (by simp))
  have H2 := Lib.hid h2
  have H3 := Lib.hid h4
  have HS := Lib.hid h5
  have HB := Lib.hid (fun O O' => ((Below.refl w.heap.size w).alloc (Nat.le_refl _) O).alloc (by simp) O')
  have HK := Lib.hid known_says
  clear h2 h4 h5 hk iO
  simp only [Says, cavV, sV] at H2 H3 ⊢
  go_enter Try.func15, Try.ntmps15
  go_wp2_with fail
  refine (H2.out _).mono ?_
  rintro e x1 ⟨rfl, hb1⟩
  obtain ⟨hc1, hf1⟩ := bcell hb1
  have hz1 := hb1.size
  simp at hz1
  have n1 : w.heap.size < x1.heap.size := by omega
  have o1 : w.heap.size + 1 < x1.heap.size := by omega
  have B1 := (HB.out _ _).trans (hb1.mono (by simp; omega))
  go_wp2_with fail
  refine (H3.out _).mono ?_
  rintro e x2 ⟨rfl, hb2⟩
  obtain ⟨hc2, hf2⟩ := bcell hb2
  have hz2 := hb2.size
  have n2 : w.heap.size < x2.heap.size := by omega
  have o2 : w.heap.size + 1 < x2.heap.size := by omega
  have B2 := B1.trans (hb2.mono (by omega))
  go_wp2_with fail
  refine (H4.out _ (HS.out.below B2)).mono ?_
  rintro e x3 ⟨rfl, hb3⟩
  obtain ⟨hc3, hf3⟩ := bcell hb3
  have hz3 := hb3.size
  have n3 : w.heap.size < x3.heap.size := by omega
  have o3 : w.heap.size + 1 < x3.heap.size := by omega
  have B3 := B2.trans (hb3.mono (by omega))
  go_wp2_with fail
  refine (HK.out _).mono ?_
  rintro e x4 ⟨rfl, hb4⟩
  obtain ⟨hc4, hf4⟩ := bcell hb4
  have hz4 := hb4.size
  have n4 : w.heap.size < x4.heap.size := by omega
  have o4 : w.heap.size + 1 < x4.heap.size := by omega
  have B4 := B3.trans (hb4.mono (by omega))
  go_wp2
  go_ret
  exact ⟨rfl, B4⟩
end Go.Ev.Gas
end

section
set_option maxRecDepth 100000
namespace Go.Ev.Gas
open Go.RowKit Go.Ev.Num Go.Proofs
/-! ### Rows that are written, lists that lie apart, lists one behind the other -/
theorem St8.there {w : World} {b : Nat} {a : Nat → Int} (h : St8 w b a) : w.there b 0 8 := fun j hj => by
  rw [Nat.zero_add]
  exact ⟨by rw [h.cell j hj]; rfl, h.frz j⟩
theorem wpList_store8 {P : Program} {ops : Array Oper} {rest : List Oper} {op : Oper} {a : Act} {w : World} {Q : Exit → Act → World → Prop} (hgd : op.guard = none) (x y : Operand) (ho : op.op = .store 28 x y)
    (b : Nat) (s v : Nat → Int) (hx : a.eval x = .pointer (some ⟨b, 0, none⟩)) (hy : a.eval y = .agg #[vi (v 0), vi (v 1), vi (v 2), vi (v 3), vi (v 4), vi (v 5), vi (v 6), vi (v 7)])
    (h8 : St8 w b s) (hi : (P.info? 28).map (·.size) = some 8)
    (h : ∀ w', Hid (w' = set8 w b v) → wpList P ops Q rest (a.put op.dst undef) w') : wpList P ops Q (op :: rest) a w :=
  wpList_store_mid hgd 28 x y ho b 0 _ hx hy h8.there hi (by simp [Value.oneCell']) (h _ (Lib.hid rfl))
theorem SL.set8 {sz : Nat} {w : World} {v : Value} {n : Nat} {F : Nat → Nat → Int} (h : SL sz w v n F) {C b : Nat} (hf : Fresh C v) (hb : b < C) (a : Nat → Int) : SL sz (set8 w b a) v n F := by
  rcases h with h | ⟨bb, off, cap, h1, h2, h3, h4, h5⟩
  · exact .inl h
  · have := hf _ _ _ h1
    have hs : (Go.Ev.Gas.set8 w b a).heap.size = w.heap.size := by
      unfold Go.Ev.Gas.set8
      simp
    exact .inr ⟨bb, off, cap, h1, by rw [hs]; exact h2, h3, h4, fun i j hi hj => by rw [World.cell?_of_block (a := ⟨bb, off + (i * sz + j), none⟩) (set8_old w b a bb (by show bb ≠ b; simp at this; omega))]; exact h5 i j hi hj⟩
theorem SL.grown {sz : Nat} {w w' : World} {v : Value} {n : Nat} {F : Nat → Nat → Int} (h : SL sz w v n F) {row : Option Nat} (hg : w.grownBy w' row) (hne : ∀ k, row = some k → ∀ a n cap, v = .slice (some a) n cap → a.block ≠ k) : SL sz w' v n F := by
  rcases h with h | ⟨bb, off, cap, h1, h2, h3, h4, h5⟩
  · exact .inl h
  · have hs := hg.size
    exact .inr ⟨bb, off, cap, h1, by omega, h3, h4, fun i j hi hj => by rw [World.cell?_of_block (a := ⟨bb, off + (i * sz + j), none⟩) (hg.block bb h2 (fun e => hne bb e.symm _ _ _ h1 rfl))]; exact h5 i j hi hj⟩
theorem SL.lt {sz : Nat} {w : World} {v : Value} {n : Nat} {F : Nat → Nat → Int} (h : SL sz w v n F) (hn : 1 ≤ n) : ∀ a n cap, v = .slice (some a) n cap → a.block < w.heap.size := by
  intro a m cap e
  rcases h with ⟨_, _, _, h0⟩ | ⟨bb, off, cap', h1, h2, _⟩
  · omega
  · rw [h1] at e; cases e; exact h2
theorem rowOf_add (sz : Nat) (F G : Nat → Nat → Int) (a : Nat) : ∀ m, (∀ i j, G i j = F (a + i) j) → rowOf sz F a ++ rowOf sz G m = rowOf sz F (a + m)
  | 0, _ => by simp [rowOf]
  | m + 1, h => by
    show rowOf sz F a ++ (rowOf sz G m ++ (List.range sz).map fun j => vi (G m j)) = rowOf sz F (a + m) ++ (List.range sz).map fun j => vi (F (a + m) j)
    rw [← List.append_assoc, rowOf_add sz F G a m h]
    simp only [h]
theorem rowOf_news {w : World} {b off n : Nat} {F : Nat → Nat → Int} (h : SLAt 8 w b off n F) : ∀ (j : Nat) (u : Value), (rowOf 8 F n)[j]? = some u → w.cell? ((⟨b, off, none⟩ : Addr).add j) = some u := by
  intro j u hj
  have hl := rowOf_len 8 F n
  have hlt : j < n * 8 := by rw [← hl]; exact (List.getElem?_eq_some_iff.1 hj).1
  have := rowOf_get 8 F n (j / 8) (j % 8) (by omega) (Nat.mod_lt _ (by omega))
  rw [show j / 8 * 8 + j % 8 = j by omega] at this
  rw [this] at hj
  rw [Addr.add_mid, ← Option.some.inj hj]
  have h2 := h (j / 8) (j % 8) (by omega) (Nat.mod_lt _ (by omega))
  rw [show j / 8 * 8 + j % 8 = j by omega] at h2
  exact h2
theorem rowOf_one (sz : Nat) (F : Nat → Nat → Int) : ∀ n, ∀ u ∈ rowOf sz F n, u.oneCell' = true
  | 0, u, h => by simp [rowOf] at h
  | n + 1, u, h => by
    rcases List.mem_append.1 h with h | h
    · exact rowOf_one sz F n u h
    · obtain ⟨j, _, rfl⟩ := List.mem_map.1 h
      rfl
theorem stF_tail (c s : Nat → Int) (O : Nat → Nat → Int) (f : Nat) : ∀ i j, stF c (sts c s O f) (fun q => O (f + q)) i j = stF c s O (f + i) j := fun i j => by
  unfold stF
  rw [← sts_add c s O f (i + 1)]; rfl
end Go.Ev.Gas
end

