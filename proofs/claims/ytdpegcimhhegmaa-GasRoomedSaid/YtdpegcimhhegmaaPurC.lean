import Derived.Test.YtdpegcimhhegmaaPurB
import Derived.Test.YtdpegcimhhegmaaKeepC
set_option linter.unusedVariables false
set_option linter.unusedSimpArgs false
set_option linter.unusedSectionVars false
noncomputable section
set_option maxRecDepth 1000000
set_option maxHeartbeats 0
namespace Go.Ev.Gas
open Go.RowKit Go.Ev.Num
theorem purge_total (z : Nat → Int) : (∃ m : Nat, PurgeN z m) ∨ PurgeNo z := by
  have key : ∀ k : Nat, (∀ j : Nat, j < k → foul (zl z j)) ∨ ∃ j : Nat, j < k ∧ ¬ foul (zl z j) ∧ ∀ i : Nat, i < j → foul (zl z i) := fun k => by
    induction k with
    | zero => exact .inl fun j h => by omega
    | succ k ih =>
      rcases ih with ih | ⟨j, h1, h2, h3⟩
      · by_cases h : foul (zl z k)
        · exact .inl fun j hj => by
            by_cases e : j = k
            · subst e; exact h
            · exact ih j (by omega)
        · exact .inr ⟨k, by omega, h, ih⟩
      · exact .inr ⟨j, by omega, h2, h3⟩
  rcases key 101 with h | ⟨j, h1, h2, h3⟩
  · exact .inr (.inr fun j hj => h j (by omega))
  · by_cases hc : can (zl z j)
    · exact .inl ⟨j, by omega, ⟨hc, Classical.byContradiction fun h => h2 ⟨hc, h⟩⟩, h3⟩
    · exact .inr (.inl ⟨j, by omega, hc, h3⟩)
theorem purge_one {z : Nat → Int} {m m' : Nat} (h : PurgeN z m) (h' : PurgeN z m') : m' = m := by
  rcases Nat.lt_trichotomy m m' with k | k | k
  · exact absurd h.2.1.2 (h'.2.2 m k).2
  · exact k.symm
  · exact absurd h'.2.1.2 (h.2.2 m' k).2
theorem purge_not {z : Nat → Int} {m : Nat} (h : PurgeN z m) (h' : PurgeNo z) : False := by
  rcases h' with ⟨j, h1, h2, h3⟩ | h'
  · rcases Nat.lt_trichotomy m j with k | k | k
    · exact (h3 m k).2 h.2.1.2
    · subst k; exact h2 h.2.1.1
    · exact h2 (h.2.2 j k).1
  · exact (h' m h.1).2 h.2.1.2
def nQ (z : Nat → Int) (m : Int) (i : Nat) : Int :=
  match i with
  | 300 => m
  | _ => z i
noncomputable def lotP : AV plain := .agg [iv 30 0 1000000, iv 31 0 1000000, iv 32 2000 5000, iv 33 0 1000000000]
noncomputable def rawQ : AV plain := .agg [rv 44, rv 45, rv 46, rv 47]
noncomputable def qA : AV plain := .agg [iv 44 0 1000000, iv 45 0 1000000, iv 46 2000 5000, iv 47 0 1000000000]
def Xf (y : Nat → Int) : Prop := ∃ (z : Nat → Int) (m : Nat), cavP z ∧ stP z ∧ poiP z ∧ 1 ≤ m ∧ PurgeN z m ∧ y = nQ z m
def Xz (y : Nat → Int) : Prop := cavP y ∧ stP y ∧ poiP y ∧ PurgeN y 0
def Xn (y : Nat → Int) : Prop := cavP y ∧ stP y ∧ poiP y ∧ PurgeNo y
noncomputable def k83y : KC := { f := 83, args := [cavA, stA, lotP], res := .ret (.tuple [iv 300 1 100, .bool true]) }
noncomputable def k83z : KC := { f := 83, args := [cavA, stA, lotP], res := .ret (.tuple [.int .i64 0, .bool true]) }
noncomputable def k83n : KC := { f := 83, args := [cavA, stA, lotP], res := .ret (.tuple [.int .i64 0, .bool false]) }
theorem gives_pu {z : Nat → Int} (hc : cavP z) (hs : stP z) (hl : poiP z) {m : Nat} (h : PurgeN z m) : Gives (Fence.there P) 83 #[cavV z, stV z, poV z] (.tuple #[.int .i64 m, .bool true]) :=
  fun n w => (loop_pu hc hs hl w n).mono fun e w' ⟨h1, h2⟩ => by
    rcases h1 with ⟨m', hm, he⟩ | ⟨hn, he⟩
    · rw [purge_one h hm] at he; exact ⟨he, h2⟩
    · exact (purge_not h hn).elim
theorem gives_pn {z : Nat → Int} (hc : cavP z) (hs : stP z) (hl : poiP z) (h : PurgeNo z) : Gives (Fence.there P) 83 #[cavV z, stV z, poV z] (.tuple #[.int .i64 0, .bool false]) :=
  fun n w => (loop_pu hc hs hl w n).mono fun e w' ⟨h1, h2⟩ => by
    rcases h1 with ⟨m', hm, he⟩ | ⟨hn, he⟩
    · exact (purge_not hm h).elim
    · exact ⟨he, h2⟩
theorem c83y : Con P (Fence.there P) (fun o => ∃ y, NumZ y o ∧ Xf y) k83y := con_num rfl rfl (by decide +kernel) (by decide +kernel) (by decide +kernel) (by decide +kernel) fun y ⟨z, m, hc, hs, hl, h1, hm, hy⟩ => by
  subst hy
  have := hm.1
  exact ⟨gives_pu hc hs hl hm, (show ((1 : Int) ≤ (m : Int) ∧ (m : Int) ≤ 100) ∧ _ from ⟨by omega, by simp only [bnd, bnds, and_self]⟩)⟩
theorem c83z : Con P (Fence.there P) (fun o => ∃ y, NumZ y o ∧ Xz y) k83z := con_num rfl rfl (by decide +kernel) (by decide +kernel) (by decide +kernel) (by decide +kernel) fun y ⟨hc, hs, hl, hm⟩ => ⟨gives_pu hc hs hl hm, by simp only [bnd, bnds, and_self]⟩
theorem c83n : Con P (Fence.there P) (fun o => ∃ y, NumZ y o ∧ Xn y) k83n := con_num rfl rfl (by decide +kernel) (by decide +kernel) (by decide +kernel) (by decide +kernel) fun y ⟨hc, hs, hl, hm⟩ => ⟨gives_pn hc hs hl hm, by simp only [bnd, bnds, and_self]⟩
/-! ### The law -/
def hasQ (z : Nat → Int) : Prop := (z 11 ≤ z 44 ∧ z 44 ≤ z 12) ∧ (z 13 ≤ z 45 ∧ z 45 ≤ z 14) ∧ (z 15 ≤ z 46 ∧ z 46 ≤ z 16) ∧ (z 17 ≤ z 47 ∧ z 47 ≤ z 18)
noncomputable def hasQL : List (SX × SX × Bool) := [((.v 44), (.v 11), false), ((.v 12), (.v 44), false), ((.v 45), (.v 13), false), ((.v 14), (.v 45), false), ((.v 46), (.v 15), false), ((.v 16), (.v 46), false), ((.v 47), (.v 17), false), ((.v 18), (.v 47), false)]
noncomputable def gHasQ : Ctx := gValid (cavL ++ stL) (fun o => ¬ hasQ (zo o))
noncomputable def kHasQ : KC := { f := 26, args := [stA, rawQ], res := .ret (.bool false) }
noncomputable def tHQ : CT := (.lt (.v 44) (.v 11) .leaf (.lt (.v 12) (.v 44) .leaf (.lt (.v 45) (.v 13) .leaf (.lt (.v 14) (.v 45) .leaf (.lt (.v 46) (.v 15) .leaf (.lt (.v 16) (.v 46) .leaf (.lt (.v 47) (.v 17) .leaf (.lt (.v 18) (.v 47) .leaf .out))))))))
theorem dHQ : treeK P L true [] [] kHasQ tHQ gHasQ = true := by decide +kernel
theorem cHasQ : Con P (Fence.there P) gHasQ.holds kHasQ := by
  refine con_of_tree (H := fun _ => True) fbT rfl no_k no_p tHQ gHasQ (fun _ _ => trivial) dHQ (fun G' hG' o _ hh => absurd ?_ (show ¬ hasQ (zo o) from ?_))
  · simp only [tHQ, outs, addLt, gHasQ, gValid, List.mem_append, List.mem_singleton, List.not_mem_nil, false_or, or_false] at hG'
    have hl := LtsP.of hh _ (fun _ h => h)
    subst hG'
    simp only [cavL, stL, List.cons_append, List.nil_append, LtsP, SX.eval] at hl
    simp only [hasQ, zo]; omega
  · have := hh.extra
    simp only [tHQ, outs, addLt, gHasQ, gValid, List.mem_append, List.mem_singleton, List.not_mem_nil, false_or, or_false] at hG'
    subst hG'; exact this
noncomputable def gNot (l : List (SX × SX × Bool)) (X : (Nat → Int) → Prop) : Ctx := ⟨[], l, [], fun o => ∃ y, NumZ y o ∧ X y⟩
noncomputable def lowQ : List (SX × SX × Bool) := [((.bin 2 (.c 1000) (.v 45)), (.bin 2 (.v 9) (.bin 0 (.v 44) (.v 45))), false), ((.bin 2 (.v 10) (.bin 0 (.v 44) (.v 45))), (.bin 2 (.c 1000) (.v 45)), false)]
noncomputable def upQ : List (SX × SX × Bool) := [((.bin 2 (.c 1000) (.bin 0 (.v 45) (.bin 2 (.v 300) (.v 31)))), (.bin 2 (.v 9) (.bin 0 (.bin 0 (.v 44) (.v 45)) (.bin 2 (.v 300) (.bin 0 (.v 30) (.v 31))))), false), ((.bin 2 (.v 10) (.bin 0 (.bin 0 (.v 44) (.v 45)) (.bin 2 (.v 300) (.bin 0 (.v 30) (.v 31))))), (.bin 2 (.c 1000) (.bin 0 (.v 45) (.bin 2 (.v 300) (.v 31)))), false)]
noncomputable def thinQ (b : Bool) : SX × SX × Bool := ((.bin 2 (.c 1000) (.bin 0 (.v 13) (.bin 2 (.bin 1 (.v 300) (.c 1)) (.v 31)))), (.bin 2 (.v 9) (.bin 0 (.bin 0 (.v 12) (.bin 2 (.bin 1 (.v 300) (.c 1)) (.v 30))) (.bin 0 (.v 13) (.bin 2 (.bin 1 (.v 300) (.c 1)) (.v 31))))), b)
noncomputable def richQ : SX × SX × Bool := ((.bin 2 (.v 10) (.bin 0 (.bin 0 (.v 11) (.bin 2 (.bin 1 (.v 300) (.c 1)) (.v 30))) (.bin 0 (.v 14) (.bin 2 (.bin 1 (.v 300) (.c 1)) (.v 31))))), (.bin 2 (.c 1000) (.bin 0 (.v 14) (.bin 2 (.bin 1 (.v 300) (.c 1)) (.v 31)))), true)
noncomputable def k44 (r : AV plain) (e : Int) : KC := { f := 44, args := [cavA, stA, lotP], res := .ret (.tuple [r, .int .i64 e]) }
end Go.Ev.Gas
end

