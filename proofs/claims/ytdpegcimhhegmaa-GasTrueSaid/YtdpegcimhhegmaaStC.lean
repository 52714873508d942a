import Derived.Test.YtdpegcimhhegmaaStB
import Derived.Test.YtdpegcimhhegmaaStA
import Derived.Test.YtdpegcimhhegmaaLoop
set_option linter.unusedVariables false
set_option linter.unusedSimpArgs false
set_option linter.unusedSectionVars false
noncomputable section
set_option maxRecDepth 1000000
namespace Go.Ev.Gas
open Go.RowKit Go.Ev.Num Go.Proofs
/-! ### Equal lists of states -/
noncomputable def k38 (n : Nat) : KW := ⟨38, [], [(8, n, tN 0 (8 * n)), (8, n, tN 0 (8 * n))], .bool true⟩
noncomputable def o38 : Oracle plain := ora plain [] []
theorem o38_ok : o38.ok P (Fence.there P) := ora_ok (H := fun _ => True) (fun _ _ => trivial) no_k no_p
theorem r38_1 : isRes (.ret (.bool true)) (runW P L true o38 (k38 1)) = true := by decide +kernel
theorem r38_2 : isRes (.ret (.bool true)) (runW P L true o38 (k38 2)) = true := by decide +kernel
theorem r38_3 : isRes (.ret (.bool true)) (runW P L true o38 (k38 3)) = true := by decide +kernel
theorem r38_4 : isRes (.ret (.bool true)) (runW P L true o38 (k38 4)) = true := by decide +kernel
theorem r38_5 : isRes (.ret (.bool true)) (runW P L true o38 (k38 5)) = true := by decide +kernel
theorem r38_6 : isRes (.ret (.bool true)) (runW P L true o38 (k38 6)) = true := by decide +kernel
theorem r38_7 : isRes (.ret (.bool true)) (runW P L true o38 (k38 7)) = true := by decide +kernel
theorem r38_8 : isRes (.ret (.bool true)) (runW P L true o38 (k38 8)) = true := by decide +kernel
theorem r38_9 : isRes (.ret (.bool true)) (runW P L true o38 (k38 9)) = true := by decide +kernel
theorem r38_10 : isRes (.ret (.bool true)) (runW P L true o38 (k38 10)) = true := by decide +kernel
theorem r38_11 : isRes (.ret (.bool true)) (runW P L true o38 (k38 11)) = true := by decide +kernel
theorem r38_12 : isRes (.ret (.bool true)) (runW P L true o38 (k38 12)) = true := by decide +kernel
theorem r38 : ∀ n, 1 ≤ n → n ≤ 12 → isRes (.ret (.bool true)) (runW P L true o38 (k38 n)) = true
  | 0, h, _ => absurd h (by omega)
  | 1, _, _ => r38_1
  | 2, _, _ => r38_2
  | 3, _, _ => r38_3
  | 4, _, _ => r38_4
  | 5, _, _ => r38_5
  | 6, _, _ => r38_6
  | 7, _, _ => r38_7
  | 8, _, _ => r38_8
  | 9, _, _ => r38_9
  | 10, _, _ => r38_10
  | 11, _, _ => r38_11
  | 12, _, _ => r38_12
  | n + 13, _, h => absurd h (by omega)
theorem tN_get (b m j : Nat) (a : AV plain) (h : (tN b m)[j]? = some a) : j < m ∧ a = rv (b + j) := by
  unfold tN at h
  rw [List.getElem?_map] at h
  by_cases hj : j < m
  · rw [List.getElem?_range hj] at h
    exact ⟨hj, by simpa using h.symm⟩
  · rw [List.getElem?_eq_none (by simpa using hj)] at h
    cases h
theorem frees_map : ∀ (l : List Nat) (b : Nat), AV.frees (l.map fun q => rv (b + q)) = true
  | [], _ => rfl
  | q :: r, b => by
    show (AV.free (rv (b + q)) && AV.frees (r.map fun q => rv (b + q))) = true
    rw [frees_map r b]; rfl
theorem frees_tN (b m : Nat) : AV.frees (tN b m) = true := frees_map _ _
theorem k38_free (n : Nat) : (k38 n).free = true := by
  show (true && (AV.frees (tN 0 (8 * n)) && (AV.frees (tN 0 (8 * n)) && true)) && true) = true
  rw [frees_tN]; rfl
theorem isv_rv (z : Nat → Int) (i : Nat) (h : -9223372036854775808 ≤ z i ∧ z i ≤ 9223372036854775807) : IsValue (ov z) (rv i) (vi (z i)) :=
  ⟨envZ z, rfl, vr_iv z h.1 h.2⟩
theorem sl_row {z : Nat → Int} {sz b m n : Nat} {w : World} {v : Value} {F : Nat → Nat → Int} (hsz : 0 < sz) (hn : 1 ≤ n) (hm : m = sz * n) (h : SL sz w v n F) (hz : ∀ i j, i < n → j < sz → z (b + (i * sz + j)) = F i j ∧ -9223372036854775808 ≤ F i j ∧ F i j ≤ 9223372036854775807) : RowAt (ov z) w v (sz, n, tN b m) := by
  rcases h with ⟨_, _, _, h0⟩ | ⟨bb, off, cap, h1, h2, h3, _, h5⟩
  · omega
  · refine ⟨bb, off, cap, h1, h3, h2, fun j a ha => ?_⟩
    obtain ⟨hj, rfl⟩ := tN_get b m j a ha
    have h6 : j / sz < n := by
      rw [Nat.div_lt_iff_lt_mul hsz, Nat.mul_comm]; omega
    have h7 := Nat.mod_lt j hsz
    have h8 : j / sz * sz + j % sz = j := by have := Nat.div_add_mod j sz; rw [Nat.mul_comm] at this; exact this
    have h9 := h5 (j / sz) (j % sz) h6 h7
    obtain ⟨k1, k2⟩ := hz (j / sz) (j % sz) h6 h7
    rw [h8] at h9 k1
    exact ⟨vi (F (j / sz) (j % sz)), h9, by rw [← k1]; exact isv_rv z _ (by rw [k1]; exact k2)⟩
theorem same38 {w : World} {v v' : Value} {n : Nat} {F : Nat → Nat → Int} (h0 : 1 ≤ n) (hn : n ≤ 12) (h : SL 8 w v n F) (h' : SL 8 w v' n F) (hb : ∀ i j, i < n → j < 8 → -9223372036854775808 ≤ F i j ∧ F i j ≤ 9223372036854775807) :
    Calls P 38 #[v, v'] w fun e w' => e = .returned (.bool true) ∧ Below w.heap.size w w' := by
  have c := conW_of_run (k := k38 n) fbT (k38_free n) o38_ok (r38 n h0 hn)
  let z : Nat → Int := fun m => F (m / 8) (m % 8)
  have hz : ∀ i j, i < n → j < 8 → z (0 + (i * 8 + j)) = F i j ∧ -9223372036854775808 ≤ F i j ∧ F i j ≤ 9223372036854775807 := fun i j hi hj => by
    refine ⟨?_, hb i j hi hj⟩
    show F _ _ = _
    rw [show (0 + (i * 8 + j)) / 8 = i by omega, show (0 + (i * 8 + j)) % 8 = j by omega]
  have := c (ov z) (ov_one z) (plain_holds _) [] [v, v'] w 0 ⟨envZ z, rfl, by simp only [k38, VRs]⟩ ⟨sl_row (by omega) h0 rfl h hz, sl_row (by omega) h0 rfl h' hz, trivial⟩
  refine (this.calls (room_there P)).mono fun e w' ⟨⟨v1, h1, e2, _, h3⟩, h2⟩ => ⟨?_, h2⟩
  simp only [k38, VR] at h3
  rw [h1, h3]
set_option maxHeartbeats 1000000 in
theorem same38_zero (a a' : Option Addr) (cap cap' : Nat) (w : World) : Calls Try.prog 38 #[.slice a 0 cap, .slice a' 0 cap'] w fun e w' => e = .returned (.bool true) ∧ Below w.heap.size w w' := by
  go_enter Try.func38, Try.ntmps38
  go_wp2
  refine wp_loop_rounds 1 ?_
  rw [rounds_succ]
  go_wp2
  go_ret
  exact ⟨rfl, Below.refl _ _⟩
theorem same38_any {w : World} {v v' : Value} {n : Nat} {F : Nat → Nat → Int} (hn : n ≤ 12) (h : SL 8 w v n F) (h' : SL 8 w v' n F) (hb : ∀ i j, i < n → j < 8 → -9223372036854775808 ≤ F i j ∧ F i j ≤ 9223372036854775807) :
    Calls P 38 #[v, v'] w fun e w' => e = .returned (.bool true) ∧ Below w.heap.size w w' := by
  by_cases h0 : 1 ≤ n
  · exact same38 h0 hn h h' hb
  · have : n = 0 := by omega
    subst this
    obtain ⟨a, cap, rfl⟩ := h.len
    obtain ⟨a', cap', rfl⟩ := h'.len
    exact same38_zero a a' cap cap' w
end Go.Ev.Gas
end

section
set_option maxRecDepth 100000
namespace Go.Ev.Gas
open Go.RowKit Go.Ev.Num Go.Proofs
set_option maxHeartbeats 1000000 in
theorem all74_zero (a : Option Addr) (cap : Nat) (f : Value) (w : World) : Calls Try.prog 74 #[.slice a 0 cap, f] w fun e w' => e = .returned (.bool true) ∧ Below w.heap.size w w' := by
  go_enter Try.func74, Try.ntmps74
  go_wp2
  refine wp_loop_rounds 1 ?_
  rw [rounds_succ]
  go_wp2
  go_ret
  exact ⟨rfl, Below.refl _ _⟩
set_option maxHeartbeats 1000000 in
theorem ops36_zero (a : Option Addr) (cap : Nat) (w : World) : Calls Try.prog 36 #[.slice a 0 cap] w fun e w' => e = .returned (.bool true) ∧ Below w.heap.size w w' := by
  go_enter Try.func36, Try.ntmps36
  go_wp2
  refine wp_loop_rounds 1 ?_
  rw [rounds_succ]
  go_wp2
  go_ret
  exact ⟨rfl, Below.refl _ _⟩
theorem bad_zero {O : Nat → Nat → Int} {k : Nat} (h : FirstBad O 0 k) : k = 0 := by have := h.1; omega
theorem all74_any {w : World} {v : Value} {n : Nat} {O : Nat → Nat → Int} (h : SL 10 w v n O) (hO : ∀ i, ints (O i)) {k : Nat} (hk : FirstBad O n k) (r : Bool) (hr : r = decide (k = n)) :
    Calls Try.prog 74 #[v, .func (.func 67) #[] #[]] w fun e w' => e = .returned (.bool r) ∧ Below w.heap.size w w' := by
  rcases h with ⟨a, cap, rfl, rfl⟩ | ⟨b, off, cap, rfl, h2, h3, h4, h5⟩
  · rw [bad_zero hk] at hr
    rw [show r = true by rw [hr]; simp]
    exact all74_zero a cap _ w
  · exact all74_some b off n cap O k w h4 h3 h2 h5 hk hO r hr
theorem ops36_any {w : World} {v : Value} {n : Nat} {O : Nat → Nat → Int} (h : SL 10 w v n O) (hO : ∀ i, ints (O i)) {k : Nat} (hk : FirstBad O n k) (r : Bool) (hr : r = decide (k = n)) :
    Calls Try.prog 36 #[v] w fun e w' => e = .returned (.bool r) ∧ Below w.heap.size w w' := by
  rcases h with ⟨a, cap, rfl, rfl⟩ | ⟨b, off, cap, rfl, h2, h3, h4, h5⟩
  · rw [bad_zero hk] at hr
    rw [show r = true by rw [hr]; simp]
    exact ops36_zero a cap w
  · exact ops36_some b off n cap O k w h4 h3 h2 h5 hk hO r hr
set_option maxHeartbeats 1000000 in
theorem steps77_zero (c s : Nat → Int) (a : Option Addr) (cap : Nat) (w : World) :
    Calls Try.prog 77 #[cavV c, sV s, .slice a 0 cap] w fun e w' => e = .returned (.tuple #[.slice none 0 0, .int .i64 (-1)]) ∧ Below w.heap.size w w' := by
  simp only [cavV, sV]
  go_enter Try.func77, Try.ntmps77
  go_wp2
  refine wp_loop_rounds 1 ?_
  rw [rounds_succ]
  go_wp2
  go_ret2
  exact ⟨rfl, ((Below.refl w.heap.size w).alloc (Nat.le_refl _) _).alloc (by simp) _⟩
/-- A slice that lies in memory from some block on. -/
def Fresh (B : Nat) (v : Value) : Prop := ∀ a n cap, v = .slice (some a) n cap → B ≤ a.block
theorem Fresh.mono {B C : Nat} {v : Value} (h : Fresh C v) (hB : B ≤ C) : Fresh B v := fun a n cap e => Nat.le_trans hB (h a n cap e)
theorem fresh_nil (B : Nat) : Fresh B (.slice none 0 0) := fun a n cap e => by cases e
theorem own_fresh {w : World} {base e size : Nat} {v : Value} {n : Nat} {xs : List Value} (h : w.ownsRow base e size v n xs) : Fresh base v := by
  intro a m cap e
  rcases h.2 with ⟨rfl, _⟩ | ⟨g, cap', cur, rfl, h1, _⟩
  · cases e
  · cases e; exact h1
theorem steps77_any {w : World} {v : Value} {n : Nat} {O : Nat → Nat → Int} (c s : Nat → Int) (h : SL 10 w v n O) (hn : n ≤ 20) (hc : cavP c) (hs : StI s) (hO : ∀ i, i < n → opOk (O i)) {k : Nat} (hk : Stop c s O n k) (r : Int) (hr : r = if k = n then -1 else (k : Int)) :
    Calls Try.prog 77 #[cavV c, sV s, v] w fun e w' => ∃ v', e = .returned (.tuple #[v', .int .i64 r]) ∧ SL 8 w' v' k (stF c s O) ∧ (k = 0 → v' = .slice none 0 0) ∧ Fresh w.heap.size v' ∧ Below w.heap.size w w' := by
  rcases h with ⟨a, cap, rfl, rfl⟩ | ⟨b, off, cap, rfl, h2, h3, h4, h5⟩
  · have e : k = 0 := by have := hk.1; omega
    subst e
    rw [if_pos rfl] at hr
    subst hr
    exact (steps77_zero c s a cap w).mono fun e w' ⟨h1, h2⟩ => ⟨_, h1, .inl ⟨none, 0, rfl, rfl⟩, fun _ => rfl, fresh_nil _, h2⟩
  · refine (steps77_some c s b off n cap O k w hn h3 h2 h5 hc hs hO hk r hr).mono fun e w' ⟨v', h6, h7, h7', h8⟩ => ⟨v', h6, own_sl h7 (by have := hk.1; omega), h7', (own_fresh h7).mono (by omega), h8⟩
set_option maxHeartbeats 2000000 in
theorem steps35g {w : World} {v : Value} {n : Nat} {O : Nat → Nat → Int} (c s : Nat → Int) (iO : ∀ i, ints (O i)) (h : SL 10 w v n O) (hn : n ≤ 20) (hc : cavP c) (hs : StI s) (hO : ∀ i, i < n → opOk (O i)) {k : Nat} (hk : Stop c s O n k) (r : Int) (hr : r = if k = n then -1 else (k : Int)) :
    Calls Try.prog 35 #[cavV c, sV s, v] w fun e w' => ∃ v', e = .returned (.tuple #[v', .int .i64 r, .int .i64 0]) ∧ SL 8 w' v' k (stF c s O) ∧ (k = 0 → v' = .slice none 0 0) ∧ Fresh w.heap.size v' ∧ Below w.heap.size w w' := by
  have H1 : Hid (Says 54 (cavV c) true) := Lib.hid (ret_of (gives54 hc))
  have H2 : Hid (Says 55 (sV s) true) := Lib.hid (ret_of (gives55 (z := zz zeros s zeros) hs))
  have H3 := Lib.hid (fun (w' : World) (h' : SL 10 w' v n O) => all74_any h' iO (k := n) ⟨Nat.le_refl _, hO, fun h => absurd h (by omega)⟩ true (by simp))
  have H4 := Lib.hid (fun (w' : World) (h' : SL 10 w' v n O) => steps77_any c s h' hn hc hs hO hk r hr)
  have HS := Lib.hid h
  have HB := Lib.hid (fun O O' => ((Below.refl w.heap.size w).alloc (Nat.le_refl _) O).alloc (by simp) O')
  obtain ⟨a, cap, rfl⟩ := h.len
  clear h hO hk hr hs hc iO
  simp only [Says, cavV, sV] at H1 H2 H4 ⊢
  go_enter Try.func35, Try.ntmps35
  go_wp2_with fail
  refine (H1.out _).mono ?_
  rintro e x1 ⟨rfl, hb1⟩
  obtain ⟨hc1, hf1⟩ := bcell hb1
  have hz1 := hb1.size
  simp at hz1
  have m1 : w.heap.size < x1.heap.size := by omega
  have m2 : w.heap.size + 1 < x1.heap.size := by omega
  go_wp2_with fail
  refine (H2.out _).mono ?_
  rintro e x2 ⟨rfl, hb2⟩
  obtain ⟨hc2, hf2⟩ := bcell hb2
  have hz2 := hb2.size
  have m3 : w.heap.size < x2.heap.size := by omega
  have m4 : w.heap.size + 1 < x2.heap.size := by omega
  have B2 := ((HB.out _ _).trans (hb1.mono (by simp; omega))).trans (hb2.mono (by omega))
  go_wp2_with fail
  refine (H3.out _ (HS.out.below B2)).mono ?_
  rintro e x3 ⟨rfl, hb3⟩
  obtain ⟨hc3, hf3⟩ := bcell hb3
  have hz3 := hb3.size
  have m5 : w.heap.size < x3.heap.size := by omega
  have m6 : w.heap.size + 1 < x3.heap.size := by omega
  have B3 := B2.trans (hb3.mono (by omega))
  go_wp2_with fail
  refine (H4.out _ (HS.out.below B3)).mono ?_
  rintro e x4 ⟨v', rfl, hsl, hnil, hfr, hb4⟩
  go_wp2
  go_ret3
  exact ⟨v', rfl, hsl, hnil, hfr.mono B3.size, B3.trans (hb4.mono (by omega))⟩
theorem steps35 {w : World} {v : Value} {n : Nat} {O : Nat → Nat → Int} (c s : Nat → Int) (ic : ints c) (is : ints s) (iO : ∀ i, ints (O i)) (h : SL 10 w v n O) (hn : n ≤ 20) (hc : cavP c) (hs : StI s) (hO : ∀ i, i < n → opOk (O i)) {k : Nat} (hk : Stop c s O n k) (r : Int) (hr : r = if k = n then -1 else (k : Int)) :
    Calls Try.prog 35 #[cavV c, sV s, v] w fun e w' => ∃ v', e = .returned (.tuple #[v', .int .i64 r, .int .i64 0]) ∧ SL 8 w' v' k (stF c s O) ∧ (k = 0 → v' = .slice none 0 0) ∧ Fresh w.heap.size v' ∧ Below w.heap.size w w' :=
  steps35g c s iO h hn hc hs hO hk r hr
set_option maxHeartbeats 2000000 in
theorem steps35_long (c s : Nat → Int) (a : Option Addr) (n cap : Nat) (hn : 20 < n) (hm : n ≤ 9223372036854775807) (w : World) : Calls Try.prog 35 #[cavV c, sV s, .slice a n cap] w fun e w' => e = .returned (.tuple #[.slice none 0 0, .int .i64 0, .int .i64 3]) ∧ Below w.heap.size w w' := by
  have h : (20 : Int) < (n : Int) := by omega
  simp only [cavV, sV]
  go_enter Try.func35, Try.ntmps35
  go_wp2
  go_ret3
  exact ⟨rfl, ((Below.refl w.heap.size w).alloc (Nat.le_refl _) _).alloc (by simp) _⟩
set_option maxHeartbeats 2000000 in
theorem steps35_c (c s : Nat → Int) (a : Option Addr) (n cap : Nat) (hn : n ≤ 20) (h1 : Says 54 (cavV c) false) (w : World) : Calls Try.prog 35 #[cavV c, sV s, .slice a n cap] w fun e w' => e = .returned (.tuple #[.slice none 0 0, .int .i64 0, .int .i64 2]) ∧ Below w.heap.size w w' := by
  have h : ¬ (20 : Int) < (n : Int) := by omega
  have H1 := Lib.hid h1
  have HB := Lib.hid (fun O O' => ((Below.refl w.heap.size w).alloc (Nat.le_refl _) O).alloc (by simp) O')
  clear h1
  simp only [Says, cavV, sV] at H1 ⊢
  go_enter Try.func35, Try.ntmps35
  go_wp2_with fail
  refine (H1.out _).mono ?_
  rintro e x1 ⟨rfl, hb1⟩
  obtain ⟨hc1, hf1⟩ := bcell hb1
  have hz1 := hb1.size
  simp at hz1
  have n1 : w.heap.size < x1.heap.size := by omega
  have o1 : w.heap.size + 1 < x1.heap.size := by omega
  have B1 := (HB.out _ _).trans (hb1.mono (by simp; omega))
  go_wp2
  go_ret3
  exact ⟨rfl, B1⟩
set_option maxHeartbeats 2000000 in
theorem steps35_s (c s : Nat → Int) (a : Option Addr) (n cap : Nat) (hn : n ≤ 20) (h1 : Says 54 (cavV c) true) (h2 : Says 55 (sV s) false) (w : World) : Calls Try.prog 35 #[cavV c, sV s, .slice a n cap] w fun e w' => e = .returned (.tuple #[.slice none 0 0, .int .i64 0, .int .i64 2]) ∧ Below w.heap.size w w' := by
  have h : ¬ (20 : Int) < (n : Int) := by omega
  have H1 := Lib.hid h1
  have H2 := Lib.hid h2
  have HB := Lib.hid (fun O O' => ((Below.refl w.heap.size w).alloc (Nat.le_refl _) O).alloc (by simp) O')
  clear h1 h2
  simp only [Says, cavV, sV] at H1 H2 ⊢
  go_enter Try.func35, Try.ntmps35
  go_wp2_with fail
  refine (H1.out _).mono ?_
  rintro e x1 ⟨rfl, hb1⟩
  obtain ⟨hc1, hf1⟩ := bcell hb1
  have hz1 := hb1.size
  simp at hz1
  have n1 : w.heap.size < x1.heap.size := by omega
  have o1 : w.heap.size + 1 < x1.heap.size := by omega
  have B1 := (HB.out _ _).trans (hb1.mono (by simp; omega))
  go_wp2_with fail
  refine (H2.out _).mono ?_
  rintro e x2 ⟨rfl, hb2⟩
  obtain ⟨hc2, hf2⟩ := bcell hb2
  have hz2 := hb2.size
  have n2 : w.heap.size < x2.heap.size := by omega
  have o2 : w.heap.size + 1 < x2.heap.size := by omega
  have B2 := B1.trans (hb2.mono (by omega))
  go_wp2
  go_ret3
  exact ⟨rfl, B2⟩
set_option maxHeartbeats 2000000 in
theorem steps35_o (c s : Nat → Int) {v : Value} {n : Nat} {O : Nat → Nat → Int} {k : Nat} (iO : ∀ i, ints (O i)) (hn : n ≤ 20) (h1 : Says 54 (cavV c) true) (h2 : Says 55 (sV s) true) (hk : FirstBad O n k) (hkn : k < n) (w : World) (h3 : SL 10 w v n O) : Calls Try.prog 35 #[cavV c, sV s, v] w fun e w' => e = .returned (.tuple #[.slice none 0 0, .int .i64 0, .int .i64 2]) ∧ Below w.heap.size w w' := by
  have h : ¬ (20 : Int) < (n : Int) := by omega
  have H1 := Lib.hid h1
  have H2 := Lib.hid h2
  have H3 := Lib.hid (fun (w' : World) (h' : SL 10 w' v n O) => all74_any h' iO hk false (by rw [decide_eq_false (by omega)]))
  have HS := Lib.hid h3
  obtain ⟨a, cap, rfl⟩ := h3.len
  have HB := Lib.hid (fun O O' => ((Below.refl w.heap.size w).alloc (Nat.le_refl _) O).alloc (by simp) O')
  clear h1 h2 hk iO h3
  simp only [Says, cavV, sV] at H1 H2 ⊢
  go_enter Try.func35, Try.ntmps35
  go_wp2_with fail
  refine (H1.out _).mono ?_
  rintro e x1 ⟨rfl, hb1⟩
  obtain ⟨hc1, hf1⟩ := bcell hb1
  have hz1 := hb1.size
  simp at hz1
  have n1 : w.heap.size < x1.heap.size := by omega
  have o1 : w.heap.size + 1 < x1.heap.size := by omega
  have B1 := (HB.out _ _).trans (hb1.mono (by simp; omega))
  go_wp2_with fail
  refine (H2.out _).mono ?_
  rintro e x2 ⟨rfl, hb2⟩
  obtain ⟨hc2, hf2⟩ := bcell hb2
  have hz2 := hb2.size
  have n2 : w.heap.size < x2.heap.size := by omega
  have o2 : w.heap.size + 1 < x2.heap.size := by omega
  have B2 := B1.trans (hb2.mono (by omega))
  go_wp2_with fail
  refine (H3.out _ (HS.out.below B2)).mono ?_
  rintro e x3 ⟨rfl, hb3⟩
  obtain ⟨hc3, hf3⟩ := bcell hb3
  have hz3 := hb3.size
  have n3 : w.heap.size < x3.heap.size := by omega
  have o3 : w.heap.size + 1 < x3.heap.size := by omega
  have B3 := B2.trans (hb3.mono (by omega))
  go_wp2
  go_ret3
  exact ⟨rfl, B3⟩
end Go.Ev.Gas
end

