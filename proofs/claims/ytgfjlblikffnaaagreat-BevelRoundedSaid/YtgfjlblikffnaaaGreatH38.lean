import Derived.Test.YtgfjlblikffnaaaGreatH31
set_option linter.unusedVariables false
set_option linter.unusedSectionVars false
set_option linter.unusedSimpArgs false
namespace Go.Am
open Go.Proofs
theorem Tryz.adi:dO Tryz.prog plan Tryz.link 4425 31 3 Tryz.Uc=some Tryz.BK:=by kernel_rfl
theorem Tryz.adl:rJ Tryz.prog plan Tryz.tT Tryz.tF Tryz.link 4425 4423 0 none 20000 20 Tryz.BK.1=true:=by kernel_rfl
theorem Tryz.adm:dO Tryz.prog plan Tryz.link 4425 28 3 Tryz.BK.2=some Tryz.BL:=by kernel_rfl
theorem Tryz.adn:rJ Tryz.prog plan Tryz.tT Tryz.tF Tryz.link 4425 4423 2 (some (.int .i64 (.ofNat 1))) 20000 20 Tryz.BL.1=true:=by kernel_rfl
theorem Tryz.ado:dO Tryz.prog plan Tryz.link 4425 28 3 Tryz.BL.2=some Tryz.BM:=by kernel_rfl
theorem Tryz.adp:rJ Tryz.prog plan Tryz.tT Tryz.tF Tryz.link 4425 4423 2 (some (.int .i64 (.ofNat 2))) 20000 20 Tryz.BM.1=true:=by kernel_rfl
end Go.Am
