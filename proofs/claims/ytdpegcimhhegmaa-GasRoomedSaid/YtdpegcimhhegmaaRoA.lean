import Derived.Test.YtdpegcimhhegmaaPurA
import Derived.Test.YtdpegcimhhegmaaRefC
import Derived.Test.YtdpegcimhhegmaaRefQ
set_option linter.unusedVariables false
set_option linter.unusedSimpArgs false
set_option linter.unusedSectionVars false
noncomputable section
set_option maxRecDepth 1000000
set_option maxHeartbeats 0
namespace Go.Ev.Gas
open Go.RowKit Go.Ev.Num
/-! ### Rounds: with lots or units, the number as it is or one more -/
def zw (z : Nat → Int) (k : Int) (i : Nat) : Int :=
  match i with
  | 28 => 2 | 19 => 0 | 20 => 0 | 21 => 0 | 22 => 0 | 23 => k * z 34 | 24 => 0 | 25 => 0 | 26 => 0 | 27 => 0 | _ => z i
def unP (z : Nat → Int) : Prop := 1 ≤ z 34 ∧ z 34 ≤ 1000000
def Arg (u : Bool) (z : Nat → Int) : Prop := if u = true then poiP z else unP z
def Yo (u : Bool) : (Nat → Int) → Int → Nat → Int := if u = true then zl else zw
/-- The names of a round; a: what stands where nothing could be done. -/
def nw (z y a : Nat → Int) (k : Int) (i : Nat) : Int :=
  match i with
  | 220 => a 0 | 221 => a 1 | 222 => a 2 | 223 => a 3 | 224 => a 4 | 225 => a 5 | 226 => a 6 | 227 => a 7
  | 230 => gon y 0 | 231 => gon y 1 | 232 => gon y 2 | 233 => gon y 3 | 234 => gon y 4 | 235 => gon y 5
  | _ => nm z y k i
theorem nw_low (z y a y' a' : Nat → Int) (k k' : Int) {j : Nat} (h : j < 200) : nw z y a k j = nw z y' a' k' j := by
  unfold nw
  split <;> first | omega | exact nm_low z y y' k k' h
theorem op_units {z : Nat → Int} (hu : unP z) {k : Int} (h0 : 0 ≤ k) (h1 : k ≤ 100) : op2b (zw z k) := by
  simp only [unP] at hu
  have a : 0 ≤ k * z 34 ∧ k * z 34 ≤ 100 * 1000000 := mulB h0 h1 (by omega) (by omega)
  exact ⟨rfl, rfl, rfl, rfl, rfl, a, rfl, rfl, rfl, rfl⟩
theorem op_any {u : Bool} {z : Nat → Int} (ha : Arg u z) {k : Int} (h0 : 0 ≤ k) (h1 : k ≤ 100) : op1b (Yo u z k) ∨ op2b (Yo u z k) := by
  cases u
  · exact .inr (op_units ha h0 h1)
  · exact .inl (op_lots ha h0 h1)
theorem yo_cav {u : Bool} {z : Nat → Int} {k : Int} (h : cavP z) : cavP (Yo u z k) := by cases u <;> exact h
theorem yo_st {u : Bool} {z : Nat → Int} {k : Int} (h : stP z) : stP (Yo u z k) := by cases u <;> exact h
/-- The round's operation gives this, if it can be done. -/
theorem yo_can {u : Bool} {z : Nat → Int} {k : Int} (hc : cavP z) (hs : stP z) (ha : Arg u z) (h0 : 0 ≤ k) (h1 : k ≤ 100) (h : can (Yo u z k)) : opP (Yo u z k) ∧ stP (zs (Yo u z k)) ∧ GoI (gon (Yo u z k)) := by
  have ho := ((do_big (yo_cav hc) (yo_st hs) (op_any ha h0 h1)).1 h).1
  exact ⟨ho, st_behind (yo_cav hc) (yo_st hs) ho h, (aft_in (yo_cav hc) (yo_st hs) ho h).2⟩
/-- What stands where nothing could be done. -/
def junk (y : Nat → Int) (a : Nat → Int) : Prop := (∀ i, 0 ≤ a i ∧ a i ≤ 200000000000) ∧ (¬ can y → Gives (Fence.there P) 31 #[cavV y, stV y, opV y] (ansV a zeros (.bool false)))
theorem junk_is {u : Bool} {z : Nat → Int} {k : Int} (hc : cavP z) (hs : stP z) (ha : Arg u z) (h0 : 0 ≤ k) (h1 : k ≤ 100) : ∃ a, junk (Yo u z k) a := by
  by_cases h : can (Yo u z k)
  · exact ⟨zeros, fun i => by simp only [zeros]; omega, fun h' => absurd h h'⟩
  · obtain ⟨a, h2, h3⟩ := ref_big (yo_cav hc) (yo_st hs) (op_any ha h0 h1) h
    exact ⟨a, h2, fun _ => h3⟩
def Rd (u : Bool) (s : Int) (q : (Nat → Int) → Prop) (y : Nat → Int) : Prop :=
  ∃ (z a : Nat → Int) (k : Int), cavP z ∧ stP z ∧ Arg u z ∧ 0 ≤ k + s ∧ k + s ≤ 100 ∧ q (Yo u z (k + s)) ∧ junk (Yo u z (k + s)) a ∧ y = nw z (Yo u z (k + s)) a k
theorem Rd.mono {u : Bool} {s : Int} {q q' : (Nat → Int) → Prop} {o : Nat → Value} (h : ∀ y, q y → q' y) : (∃ y, NumZ y o ∧ Rd u s q y) → ∃ y, NumZ y o ∧ Rd u s q' y :=
  fun ⟨y, h1, z, a, k, hc, hs, hl, h2, h3, hq, hj, hy⟩ => ⟨y, h1, z, a, k, hc, hs, hl, h2, h3, h _ hq, hj, hy⟩
noncomputable def goN : AV plain := .agg [rv 230, rv 231, rv 232, rv 233, rv 234, rv 235]
noncomputable def jN : AV plain := .agg [iv 220 0 200000000000, iv 221 0 200000000000, iv 222 0 200000000000, iv 223 0 200000000000, iv 224 0 200000000000, iv 225 0 200000000000, iv 226 0 200000000000, iv 227 0 200000000000]
theorem bnd_stw {y z a : Nat → Int} {k : Int} (h : stP (zs y)) : bnd (ov (nw z y a k)) stN := by
  simp only [stP] at h
  simp only [stN, bnd, bnds, iv, SX.eval, ov, valI, nw, nm, and_true]
  simp only [zs] at h
  omega
theorem bnd_gow {y z a : Nat → Int} {k : Int} (h : GoI (gon y)) : bnd (ov (nw z y a k)) goN := by
  simp only [goN, bnd, bnds, rv, SX.eval, ov, valI, nw, and_true]
  exact ⟨h 0, h 1, h 2, h 3, h 4, h 5⟩
theorem bnd_jw {y z a : Nat → Int} {k : Int} (h : ∀ i, 0 ≤ a i ∧ a i ≤ 200000000000) : bnd (ov (nw z y a k)) jN := by
  simp only [jN, bnd, bnds, iv, SX.eval, ov, valI, nw, and_true]
  exact ⟨h 0, h 1, h 2, h 3, h 4, h 5, h 6, h 7⟩
theorem bnd3 {o : Nat → Value} {x g : AV plain} {b : Bool} (h : bnd o x) (h' : bnd o g) : bnd o (.tuple [x, g, .bool b]) :=
  show bnd o x ∧ bnd o g ∧ bnd o (.bool b) ∧ True from ⟨h, h', by simp only [bnd], trivial⟩
theorem bnd_z8 (o : Nat → Value) : bnd o z8 := by simp only [z8, bnd, bnds, Z, and_self]
theorem bnd_z6 (o : Nat → Value) : bnd o z6 := by simp only [z6, bnd, bnds, Z, and_self]
noncomputable def op_U1 : AV plain := .agg [one 2, Z, Z, Z, Z, .sx (.bin 2 (.bin 0 (.v 200) (.c 1)) (.v 34)) 1 101000000, Z, Z, Z, Z]
noncomputable def kGo_U1 : KC := { f := 68, args := [cavA, stA, op_U1], res := .ret (.tuple [stN, goN, .bool true]) }
noncomputable def kNo_U1 : KC := { f := 68, args := [cavA, stA, op_U1], res := .ret (.tuple [z8, z6, .bool false]) }
theorem cGo_U1 : Con P (Fence.there P) (fun o => ∃ y, NumZ y o ∧ Rd false 1 can y) kGo_U1 := con_num rfl rfl (by decide +kernel) (by decide +kernel) (by decide +kernel) (by decide +kernel) fun y ⟨z, a, k, hc, hs, ha, h0, h1, hq, hj, hy⟩ => by
  subst hy
  obtain ⟨hop, hst, hg⟩ := yo_can hc hs ha h0 h1 hq
  exact ⟨((do_big (yo_cav hc) (yo_st hs) (op_any ha h0 h1)).1 hq).2.1, bnd3 (bnd_stw hst) (bnd_gow hg)⟩
theorem cNo_U1 : Con P (Fence.there P) (fun o => ∃ y, NumZ y o ∧ Rd false 1 notCan y) kNo_U1 := con_num rfl rfl (by decide +kernel) (by decide +kernel) (by decide +kernel) (by decide +kernel) fun y ⟨z, a, k, hc, hs, ha, h0, h1, hq, hj, hy⟩ => by
  subst hy
  exact ⟨(do_big (yo_cav hc) (yo_st hs) (op_any ha h0 h1)).2 hq, bnd3 (bnd_z8 _) (bnd_z6 _)⟩
noncomputable def kFine_U1 : KC := { f := 57, args := [cavA, stN, .int .i64 2], res := .ret (.int .i64 1) }
noncomputable def kBad_U1 : KC := { f := 57, args := [cavA, stN, .int .i64 2], res := .ret (iv 218 2 5) }
theorem cFine_U1 : Con P (Fence.there P) (fun o => ∃ y, NumZ y o ∧ Rd false 1 okL y) kFine_U1 := con_num rfl rfl (by decide +kernel) (by decide +kernel) (by decide +kernel) (by decide +kernel) fun y ⟨z, a, k, hc, hs, ha, h0, h1, hq, hj, hy⟩ => by
  subst hy
  obtain ⟨hop, hst, hg⟩ := yo_can hc hs ha h0 h1 hq.1
  have := rule_low (z := zs (Yo false z (k + 1))) (yo_cav hc) hst
  rw [hq.2] at this
  exact ⟨this, by simp only [bnd]⟩
theorem cBad_U1 : Con P (Fence.there P) (fun o => ∃ y, NumZ y o ∧ Rd false 1 badL y) kBad_U1 := con_num rfl rfl (by decide +kernel) (by decide +kernel) (by decide +kernel) (by decide +kernel) fun y ⟨z, a, k, hc, hs, ha, h0, h1, hq, hj, hy⟩ => by
  subst hy
  obtain ⟨hop, hst, hg⟩ := yo_can hc hs ha h0 h1 hq.1
  exact ⟨rule_low (z := zs (Yo false z (k + 1))) (yo_cav hc) hst, sureN_bad hq.2⟩
noncomputable def op_L0 : AV plain := .agg [one 1, .sx (.bin 2 (.v 200) (.v 30)) 0 101000000, .sx (.bin 2 (.v 200) (.v 31)) 0 101000000, iv 32 2000 5000, .sx (.bin 2 (.v 200) (.v 33)) 0 101000000000, Z, Z, Z, Z, Z]
noncomputable def kGo_L0 : KC := { f := 31, args := [cavA, stA, op_L0], res := .ret (.tuple [stN, z6, .bool true]) }
noncomputable def kNo_L0 : KC := { f := 31, args := [cavA, stA, op_L0], res := .ret (.tuple [jN, z6, .bool false]) }
theorem cGo_L0 : Con P (Fence.there P) (fun o => ∃ y, NumZ y o ∧ Rd true 0 can y) kGo_L0 := con_num rfl rfl (by decide +kernel) (by decide +kernel) (by decide +kernel) (by decide +kernel) fun y ⟨z, a, k, hc, hs, ha, h0, h1, hq, hj, hy⟩ => by
  subst hy
  simp only [Int.add_zero] at *
  obtain ⟨hop, hst, hg⟩ := yo_can hc hs ha h0 h1 hq
  have e2 : gon (Yo true z k) = zeros := by unfold gon; exact if_neg (show ¬ ((1 : Int) = 2) by omega)
  have hG := ref_can (yo_cav hc) (yo_st hs) hop hq
  rw [e2] at hG
  exact ⟨hG, bnd3 (bnd_stw hst) (bnd_z6 _)⟩
theorem cNo_L0 : Con P (Fence.there P) (fun o => ∃ y, NumZ y o ∧ Rd true 0 notCan y) kNo_L0 := con_num rfl rfl (by decide +kernel) (by decide +kernel) (by decide +kernel) (by decide +kernel) fun y ⟨z, a, k, hc, hs, ha, h0, h1, hq, hj, hy⟩ => by
  subst hy
  simp only [Int.add_zero] at *
  exact ⟨hj.2 hq, bnd3 (bnd_jw hj.1) (bnd_z6 _)⟩
noncomputable def kFine_L0 : KC := { f := 25, args := [cavA, stN], res := .ret (.int .i64 1) }
noncomputable def kBad_L0 : KC := { f := 25, args := [cavA, stN], res := .ret (iv 218 2 5) }
theorem cFine_L0 : Con P (Fence.there P) (fun o => ∃ y, NumZ y o ∧ Rd true 0 okL y) kFine_L0 := con_num rfl rfl (by decide +kernel) (by decide +kernel) (by decide +kernel) (by decide +kernel) fun y ⟨z, a, k, hc, hs, ha, h0, h1, hq, hj, hy⟩ => by
  subst hy
  simp only [Int.add_zero] at *
  obtain ⟨hop, hst, hg⟩ := yo_can hc hs ha h0 h1 hq.1
  have := ref_sure (z := zs (Yo true z k)) (yo_cav hc) hst
  rw [hq.2] at this
  exact ⟨this, by simp only [bnd]⟩
theorem cBad_L0 : Con P (Fence.there P) (fun o => ∃ y, NumZ y o ∧ Rd true 0 badL y) kBad_L0 := con_num rfl rfl (by decide +kernel) (by decide +kernel) (by decide +kernel) (by decide +kernel) fun y ⟨z, a, k, hc, hs, ha, h0, h1, hq, hj, hy⟩ => by
  subst hy
  simp only [Int.add_zero] at *
  obtain ⟨hop, hst, hg⟩ := yo_can hc hs ha h0 h1 hq.1
  exact ⟨ref_sure (z := zs (Yo true z k)) (yo_cav hc) hst, sureN_bad hq.2⟩
noncomputable def op_U0 : AV plain := .agg [one 2, Z, Z, Z, Z, .sx (.bin 2 (.v 200) (.v 34)) 0 101000000, Z, Z, Z, Z]
noncomputable def kGo_U0 : KC := { f := 31, args := [cavA, stA, op_U0], res := .ret (.tuple [stN, goN, .bool true]) }
noncomputable def kNo_U0 : KC := { f := 31, args := [cavA, stA, op_U0], res := .ret (.tuple [jN, z6, .bool false]) }
theorem cGo_U0 : Con P (Fence.there P) (fun o => ∃ y, NumZ y o ∧ Rd false 0 can y) kGo_U0 := con_num rfl rfl (by decide +kernel) (by decide +kernel) (by decide +kernel) (by decide +kernel) fun y ⟨z, a, k, hc, hs, ha, h0, h1, hq, hj, hy⟩ => by
  subst hy
  simp only [Int.add_zero] at *
  obtain ⟨hop, hst, hg⟩ := yo_can hc hs ha h0 h1 hq
  exact ⟨ref_can (yo_cav hc) (yo_st hs) hop hq, bnd3 (bnd_stw hst) (bnd_gow hg)⟩
theorem cNo_U0 : Con P (Fence.there P) (fun o => ∃ y, NumZ y o ∧ Rd false 0 notCan y) kNo_U0 := con_num rfl rfl (by decide +kernel) (by decide +kernel) (by decide +kernel) (by decide +kernel) fun y ⟨z, a, k, hc, hs, ha, h0, h1, hq, hj, hy⟩ => by
  subst hy
  simp only [Int.add_zero] at *
  exact ⟨hj.2 hq, bnd3 (bnd_jw hj.1) (bnd_z6 _)⟩
noncomputable def kFine_U0 : KC := { f := 25, args := [cavA, stN], res := .ret (.int .i64 1) }
noncomputable def kBad_U0 : KC := { f := 25, args := [cavA, stN], res := .ret (iv 218 2 5) }
theorem cFine_U0 : Con P (Fence.there P) (fun o => ∃ y, NumZ y o ∧ Rd false 0 okL y) kFine_U0 := con_num rfl rfl (by decide +kernel) (by decide +kernel) (by decide +kernel) (by decide +kernel) fun y ⟨z, a, k, hc, hs, ha, h0, h1, hq, hj, hy⟩ => by
  subst hy
  simp only [Int.add_zero] at *
  obtain ⟨hop, hst, hg⟩ := yo_can hc hs ha h0 h1 hq.1
  have := ref_sure (z := zs (Yo false z k)) (yo_cav hc) hst
  rw [hq.2] at this
  exact ⟨this, by simp only [bnd]⟩
theorem cBad_U0 : Con P (Fence.there P) (fun o => ∃ y, NumZ y o ∧ Rd false 0 badL y) kBad_U0 := con_num rfl rfl (by decide +kernel) (by decide +kernel) (by decide +kernel) (by decide +kernel) fun y ⟨z, a, k, hc, hs, ha, h0, h1, hq, hj, hy⟩ => by
  subst hy
  simp only [Int.add_zero] at *
  obtain ⟨hop, hst, hg⟩ := yo_can hc hs ha h0 h1 hq.1
  exact ⟨ref_sure (z := zs (Yo false z k)) (yo_cav hc) hst, sureN_bad hq.2⟩
def thinY (y : Nat → Int) : Prop := can y ∧ thinP (zs y)
def richY (y : Nat → Int) : Prop := can y ∧ ¬ thinP (zs y) ∧ richP (zs y)
def pureY (y : Nat → Int) : Prop := can y ∧ ¬ thinP (zs y) ∧ ¬ richP (zs y)
def nthinY (y : Nat → Int) : Prop := can y ∧ ¬ thinP (zs y)
noncomputable def kThin (b : Bool) : KC := { f := 65, args := [cavA, stN], res := .ret (.bool b) }
noncomputable def kRich (b : Bool) : KC := { f := 66, args := [cavA, stN], res := .ret (.bool b) }
theorem cThin_t : Con P (Fence.there P) (fun o => ∃ y, NumZ y o ∧ Rd true 0 thinY y) (kThin true) := con_num rfl rfl (by decide +kernel) (by decide +kernel) (by decide +kernel) (by decide +kernel) fun y ⟨z, a, k, hc, hs, ha, h0, h1, hq, hj, hy⟩ => by
  subst hy
  simp only [Int.add_zero] at *
  obtain ⟨hop, hst, hg⟩ := yo_can hc hs ha h0 h1 hq.1
  have := ref_thin (z := zs (Yo true z k)) (yo_cav hc) hst
  rw [decide_eq_true hq.2] at this
  exact ⟨this, by simp only [bnd]⟩
theorem cThin_f : Con P (Fence.there P) (fun o => ∃ y, NumZ y o ∧ Rd true 0 nthinY y) (kThin false) := con_num rfl rfl (by decide +kernel) (by decide +kernel) (by decide +kernel) (by decide +kernel) fun y ⟨z, a, k, hc, hs, ha, h0, h1, hq, hj, hy⟩ => by
  subst hy
  simp only [Int.add_zero] at *
  obtain ⟨hop, hst, hg⟩ := yo_can hc hs ha h0 h1 hq.1
  have := ref_thin (z := zs (Yo true z k)) (yo_cav hc) hst
  rw [decide_eq_false hq.2] at this
  exact ⟨this, by simp only [bnd]⟩
theorem cRich_t : Con P (Fence.there P) (fun o => ∃ y, NumZ y o ∧ Rd true 0 richY y) (kRich true) := con_num rfl rfl (by decide +kernel) (by decide +kernel) (by decide +kernel) (by decide +kernel) fun y ⟨z, a, k, hc, hs, ha, h0, h1, hq, hj, hy⟩ => by
  subst hy
  simp only [Int.add_zero] at *
  obtain ⟨hop, hst, hg⟩ := yo_can hc hs ha h0 h1 hq.1
  have := ref_rich (z := zs (Yo true z k)) (yo_cav hc) hst
  rw [decide_eq_true hq.2.2] at this
  exact ⟨this, by simp only [bnd]⟩
theorem cRich_f : Con P (Fence.there P) (fun o => ∃ y, NumZ y o ∧ Rd true 0 pureY y) (kRich false) := con_num rfl rfl (by decide +kernel) (by decide +kernel) (by decide +kernel) (by decide +kernel) fun y ⟨z, a, k, hc, hs, ha, h0, h1, hq, hj, hy⟩ => by
  subst hy
  simp only [Int.add_zero] at *
  obtain ⟨hop, hst, hg⟩ := yo_can hc hs ha h0 h1 hq.1
  have := ref_rich (z := zs (Yo true z k)) (yo_cav hc) hst
  rw [decide_eq_false hq.2.2] at this
  exact ⟨this, by simp only [bnd]⟩
end Go.Ev.Gas
end

