import Derived.Test.YtgfjlblikffnaaaGreatH31
set_option linter.unusedVariables false
set_option linter.unusedSectionVars false
set_option linter.unusedSimpArgs false
namespace Go.Am
open Go.Proofs
theorem Tryz.fin:RY Tryz.prog plan Tryz.tT Tryz.tF 5630 (.bool true) Tryz.adh=true:=by kernel_rfl
end Go.Am
