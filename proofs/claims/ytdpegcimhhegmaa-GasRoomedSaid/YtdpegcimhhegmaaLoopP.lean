import Derived.Test.YtdpegcimhhegmaaSeat
import Derived.Test.YtdpegcimhhegmaaLoop
set_option linter.unusedVariables false
set_option linter.unusedSimpArgs false
set_option linter.unusedSectionVars false
noncomputable section
namespace Go.Ev
noncomputable def lft : Code → Code
  | .seq x _ => x
  | c => c
noncomputable def rgt : Code → Code
  | .seq _ y => y
  | c => c
noncomputable def inn : Code → Code
  | .block _ c => c
  | .loop c => c
  | .scope c => c
  | c => c
noncomputable def bodyOf : Option Code → Code
  | some c => c
  | none => .skip
end Go.Ev
namespace Go.Ev.Gas
open Go.Proofs
noncomputable def c79 : Code := bodyOf Try.f79.body
noncomputable def c45 : Code := bodyOf Try.f45.body
noncomputable def c46 : Code := bodyOf Try.f46.body
noncomputable def c47 : Code := bodyOf Try.f47.body
noncomputable def c83 : Code := bodyOf Try.f83.body
/-- A function with one loop: ahead of it, its round, behind it. -/
noncomputable def pre0 (c : Code) : Code := lft c
noncomputable def pre1 (c : Code) : Code := lft (lft (rgt c))
noncomputable def round (c : Code) : Code := inn (inn (rgt (lft (rgt c))))
noncomputable def rest (c : Code) : Code := rgt (rgt c)
theorem b79 : Try.f79.body = some (.seq (pre0 c79) (.seq (.seq (pre1 c79) (.block 0 (.loop (round c79)))) (rest c79))) := by kernel_rfl
theorem b45 : Try.f45.body = some (.seq (pre0 c45) (.seq (.seq (pre1 c45) (.block 0 (.loop (round c45)))) (rest c45))) := by kernel_rfl
theorem b46 : Try.f46.body = some (.seq (pre0 c46) (.seq (.seq (pre1 c46) (.block 0 (.loop (round c46)))) (rest c46))) := by kernel_rfl
theorem b47 : Try.f47.body = some (.seq (pre0 c47) (.seq (.seq (pre1 c47) (.block 0 (.loop (round c47)))) (rest c47))) := by kernel_rfl
/-- The same in a scope. -/
noncomputable def sco (c : Code) : Code := inn (rgt c)
noncomputable def sre1 (c : Code) : Code := lft (sco c)
noncomputable def sin (c : Code) : Code := rgt (rgt (sco c))
noncomputable def sre2 (c : Code) : Code := lft (lft (sin c))
noncomputable def sround (c : Code) : Code := inn (inn (rgt (lft (sin c))))
noncomputable def srest (c : Code) : Code := rgt (sin c)
noncomputable def lab : Code → Nat
  | .label l => l
  | _ => 0
theorem b83 : Try.f83.body = some (.seq (pre0 c83) (.scope (.seq (sre1 c83) (.seq (.label (lab (lft (rgt (sco c83))))) (.seq (.seq (sre2 c83) (.block 0 (.loop (sround c83)))) (srest c83)))))) := by kernel_rfl
end Go.Ev.Gas
end

