import Derived.Test.YtdpegcimhhegmaaRoA
import Derived.Test.YtdpegcimhhegmaaPurB
set_option linter.unusedVariables false
set_option linter.unusedSimpArgs false
set_option linter.unusedSectionVars false
noncomputable section
set_option maxRecDepth 1000000
set_option maxHeartbeats 0
namespace Go.Ev.Gas
open Go.RowKit Go.Ev.Num Go.Proofs
noncomputable def K_rp : List (Nat × AV plain) := [(3, .ptr 0 0), (4, .ptr 1 0), (5, .ptr 2 0)]
noncomputable def kc_rp : AV plain := .sx (.v 200) 0 101
noncomputable def kn_rp : AV plain := .sx (.bin 0 (.v 200) (.c 1)) 1 102
noncomputable def S_rp : List (Option (AV plain)) := slotsFrom (K_rp ++ [(7, kc_rp)]) 39 0
noncomputable def Rg_rp (q : (Nat → Int) → Prop) : Ctx := ⟨[], [(.v 200, .c 101, true), (.c 100, .v 200, false)], [], fun o => ∃ y, NumZ y o ∧ Rd true 0 q y⟩
noncomputable def Re_rp : Ctx := ⟨[], [(.v 200, .c 101, false), (.c 100, .v 200, true)], [], fun _ => True⟩
noncomputable def A_rp : List (AV plain) := [cavA, stA, .agg [iv 30 0 1000000, iv 31 0 1000000, iv 32 2000 5000, iv 33 0 1000000000]] ++ List.replicate 36 undefA
noncomputable def rows_rp : List (List (AV plain)) := [[iv 0 1 1000000, iv 1 1 1000000, iv 2 0 100000, iv 3 0 100000, iv 4 500 2000, iv 5 500 2000, iv 6 1 100, iv 7 1 100, iv 8 2000 5000, iv 9 0 1000, iv 10 0 1000], [iv 11 0 1000000, iv 12 0 1000000, iv 13 0 1000000, iv 14 0 1000000, iv 15 2000 5000, iv 16 2000 5000, iv 17 0 1000000000, iv 18 0 1000000000], [iv 30 0 1000000, iv 31 0 1000000, iv 32 2000 5000, iv 33 0 1000000000]]
noncomputable def pre_rp : Option (Res plain) := run2 P L true [] [] plain (pre1 c47) (run1 P L true [] [] plain A_rp 39 [] (pre0 c47))
noncomputable def F_rp : List (AV plain) := nextL (frameOf pre_rp) S_rp 100000
theorem dPre_rp : pieceOk 39 .normal (K_rp ++ [(7, .int .i64 0)]) S_rp F_rp 100000 (numbered rows_rp 0) pre_rp = true := by decide +kernel
noncomputable def Tn_rp : List KC := [kNo_L0]
noncomputable def Tt_rp : List KC := [kGo_L0, kThin true]
noncomputable def Tr_rp : List KC := [kGo_L0, kThin false, kRich true]
noncomputable def Tp_rp : List KC := [kGo_L0, kThin false, kRich false]
noncomputable def g_rp (q : (Nat → Int) → Prop) (T : List KC) (F : List (AV plain)) : Option (Res (Rg_rp q)) := run1 P L true T [] (Rg_rp q) F 39 rows_rp (round c47)
noncomputable def En_rp : List (AV plain) := nextL (frameOf (g_rp notCan Tn_rp F_rp)) S_rp 100000
noncomputable def Et_rp : List (AV plain) := nextL (frameOf (g_rp thinY Tt_rp F_rp)) S_rp 100000
noncomputable def Er_rp : List (AV plain) := nextL (frameOf (g_rp richY Tr_rp F_rp)) S_rp 100000
noncomputable def Fs_rp : List (List (AV plain)) := [F_rp, En_rp, Et_rp, Er_rp]
noncomputable def gon_rp (F : List (AV plain)) : Bool := pieceOk 39 .normal (K_rp ++ [(7, kn_rp)]) S_rp En_rp 100000 (numbered rows_rp 0) (g_rp notCan Tn_rp F)
theorem dgon0_rp : gon_rp (Fs_rp.getD 0 []) = true := by decide +kernel
theorem dgon1_rp : gon_rp (Fs_rp.getD 1 []) = true := by decide +kernel
theorem dgon2_rp : gon_rp (Fs_rp.getD 2 []) = true := by decide +kernel
theorem dgon3_rp : gon_rp (Fs_rp.getD 3 []) = true := by decide +kernel
noncomputable def got_rp (F : List (AV plain)) : Bool := pieceOk 39 .normal (K_rp ++ [(7, kn_rp)]) S_rp Et_rp 100000 (numbered rows_rp 0) (g_rp thinY Tt_rp F)
theorem dgot0_rp : got_rp (Fs_rp.getD 0 []) = true := by decide +kernel
theorem dgot1_rp : got_rp (Fs_rp.getD 1 []) = true := by decide +kernel
theorem dgot2_rp : got_rp (Fs_rp.getD 2 []) = true := by decide +kernel
theorem dgot3_rp : got_rp (Fs_rp.getD 3 []) = true := by decide +kernel
noncomputable def gor_rp (F : List (AV plain)) : Bool := pieceOk 39 .normal (K_rp ++ [(7, kn_rp)]) S_rp Er_rp 100000 (numbered rows_rp 0) (g_rp richY Tr_rp F)
theorem dgor0_rp : gor_rp (Fs_rp.getD 0 []) = true := by decide +kernel
theorem dgor1_rp : gor_rp (Fs_rp.getD 1 []) = true := by decide +kernel
theorem dgor2_rp : gor_rp (Fs_rp.getD 2 []) = true := by decide +kernel
theorem dgor3_rp : gor_rp (Fs_rp.getD 3 []) = true := by decide +kernel
noncomputable def Bp_rp (F : List (AV plain)) : List (AV plain) := nextL (frameOf (g_rp pureY Tp_rp F)) (slotsFrom [] 39 0) 100000
noncomputable def gop_rp (F : List (AV plain)) : Bool := pieceOk 39 .ret [(6, .sx (.v 200) 0 101)] (slotsFrom [] 39 0) (Bp_rp F) 100000 [] (g_rp pureY Tp_rp F)
noncomputable def X_rp (F : List (AV plain)) : List (AV plain) := nextL (frameOf (run1 P L true [] [] Re_rp F 39 rows_rp (round c47))) S_rp 100000
noncomputable def goe_rp (F : List (AV plain)) : Bool := pieceOk 39 (.exit 0) (K_rp ++ [(7, kc_rp)]) S_rp (X_rp F) 100000 (numbered rows_rp 0) (run1 P L true [] [] Re_rp F 39 rows_rp (round c47))
noncomputable def Y_rp (F : List (AV plain)) : List (AV plain) := nextL (frameOf (run1 P L true [] [] plain (X_rp F) 39 rows_rp (rest c47))) (slotsFrom [] 39 0) 100000
noncomputable def gos_rp (F : List (AV plain)) : Bool := pieceOk 39 .ret [(6, .int .i64 (-1))] (slotsFrom [] 39 0) (Y_rp F) 100000 [] (run1 P L true [] [] plain (X_rp F) 39 rows_rp (rest c47))
theorem dgop0_rp : gop_rp (Fs_rp.getD 0 []) = true := by decide +kernel
theorem dgop1_rp : gop_rp (Fs_rp.getD 1 []) = true := by decide +kernel
theorem dgop2_rp : gop_rp (Fs_rp.getD 2 []) = true := by decide +kernel
theorem dgop3_rp : gop_rp (Fs_rp.getD 3 []) = true := by decide +kernel
theorem dgoe0_rp : goe_rp (Fs_rp.getD 0 []) = true := by decide +kernel
theorem dgoe1_rp : goe_rp (Fs_rp.getD 1 []) = true := by decide +kernel
theorem dgoe2_rp : goe_rp (Fs_rp.getD 2 []) = true := by decide +kernel
theorem dgoe3_rp : goe_rp (Fs_rp.getD 3 []) = true := by decide +kernel
theorem dgos0_rp : gos_rp (Fs_rp.getD 0 []) = true := by decide +kernel
theorem dgos1_rp : gos_rp (Fs_rp.getD 1 []) = true := by decide +kernel
theorem dgos2_rp : gos_rp (Fs_rp.getD 2 []) = true := by decide +kernel
theorem dgos3_rp : gos_rp (Fs_rp.getD 3 []) = true := by decide +kernel
theorem alln_rp : ∀ i, i < 4 → gon_rp (Fs_rp.getD i []) = true := fun i h => match i, h with
  | 0, _ => dgon0_rp
  | 1, _ => dgon1_rp
  | 2, _ => dgon2_rp
  | 3, _ => dgon3_rp
  | i + 4, h => absurd h (by omega)
theorem allt_rp : ∀ i, i < 4 → got_rp (Fs_rp.getD i []) = true := fun i h => match i, h with
  | 0, _ => dgot0_rp
  | 1, _ => dgot1_rp
  | 2, _ => dgot2_rp
  | 3, _ => dgot3_rp
  | i + 4, h => absurd h (by omega)
theorem allr_rp : ∀ i, i < 4 → gor_rp (Fs_rp.getD i []) = true := fun i h => match i, h with
  | 0, _ => dgor0_rp
  | 1, _ => dgor1_rp
  | 2, _ => dgor2_rp
  | 3, _ => dgor3_rp
  | i + 4, h => absurd h (by omega)
theorem allp_rp : ∀ i, i < 4 → gop_rp (Fs_rp.getD i []) = true := fun i h => match i, h with
  | 0, _ => dgop0_rp
  | 1, _ => dgop1_rp
  | 2, _ => dgop2_rp
  | 3, _ => dgop3_rp
  | i + 4, h => absurd h (by omega)
theorem alle_rp : ∀ i, i < 4 → goe_rp (Fs_rp.getD i []) = true := fun i h => match i, h with
  | 0, _ => dgoe0_rp
  | 1, _ => dgoe1_rp
  | 2, _ => dgoe2_rp
  | 3, _ => dgoe3_rp
  | i + 4, h => absurd h (by omega)
theorem alls_rp : ∀ i, i < 4 → gos_rp (Fs_rp.getD i []) = true := fun i h => match i, h with
  | 0, _ => dgos0_rp
  | 1, _ => dgos1_rp
  | 2, _ => dgos2_rp
  | 3, _ => dgos3_rp
  | i + 4, h => absurd h (by omega)
theorem len_rp : A_rp.length = 39 ∧ ∀ i, i < 4 → (Fs_rp.getD i []).length = 39 ∧ (X_rp (Fs_rp.getD i [])).length = 39 := ⟨by decide +kernel, fun i h => match i, h with
  | 0, _ => ⟨by decide +kernel, by decide +kernel⟩
  | 1, _ => ⟨by decide +kernel, by decide +kernel⟩
  | 2, _ => ⟨by decide +kernel, by decide +kernel⟩
  | 3, _ => ⟨by decide +kernel, by decide +kernel⟩
  | i + 4, h => absurd h (by omega)⟩
theorem fit_rp : rowsFit rows_rp.length 200 rows_rp = true ∧ kfit rows_rp.length 200 K_rp = true := ⟨by decide +kernel, by decide +kernel⟩
end Go.Ev.Gas
end

