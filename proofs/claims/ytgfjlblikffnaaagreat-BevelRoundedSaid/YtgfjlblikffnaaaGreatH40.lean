import Derived.Test.YtgfjlblikffnaaaGreatH31
set_option linter.unusedVariables false
set_option linter.unusedSectionVars false
set_option linter.unusedSimpArgs false
namespace Go.Am
open Go.Proofs
theorem Tryz.afA:uX Tryz.prog plan Tryz.link [.make,.run 5,.group,.forget [5,8,9,10,72,83,84,322,1426,1805,2519,2520,2521,3940,4336,4403,4454,4504,4505,4508,4509,4520,4526,4534,4536,4539,4541]] .idle Tryz.ade=some (.ready 4540 4 4542,Tryz.Uf):=by kernel_rfl
theorem Tryz.adw:dO Tryz.prog plan Tryz.link 4542 31 3 Tryz.Uf=some Tryz.BN:=by kernel_rfl
theorem Tryz.adx:rJ Tryz.prog plan Tryz.tT Tryz.tF Tryz.link 4542 4540 0 none 20000 20 Tryz.BN.1=true:=by kernel_rfl
theorem Tryz.ady:dO Tryz.prog plan Tryz.link 4542 28 3 Tryz.BN.2=some Tryz.BO:=by kernel_rfl
theorem Tryz.adz:rJ Tryz.prog plan Tryz.tT Tryz.tF Tryz.link 4542 4540 0 none 20000 20 Tryz.BO.1=true:=by kernel_rfl
theorem Tryz.adA:dO Tryz.prog plan Tryz.link 4542 28 3 Tryz.BO.2=some Tryz.BP:=by kernel_rfl
end Go.Am
