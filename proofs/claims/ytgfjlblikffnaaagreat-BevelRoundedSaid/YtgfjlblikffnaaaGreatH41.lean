import Derived.Test.YtgfjlblikffnaaaGreatH31
set_option linter.unusedVariables false
set_option linter.unusedSectionVars false
set_option linter.unusedSimpArgs false
namespace Go.Am
open Go.Proofs
theorem Tryz.adB:rJ Tryz.prog plan Tryz.tT Tryz.tF Tryz.link 4542 4540 0 none 20000 20 Tryz.BP.1=true:=by kernel_rfl
theorem Tryz.adC:dO Tryz.prog plan Tryz.link 4542 28 3 Tryz.BP.2=some Tryz.Ug:=by kernel_rfl
theorem Tryz.adD:rJ Tryz.prog plan Tryz.tT Tryz.tF Tryz.link 4542 4540 2 (some (.int .i64 (.ofNat 3))) 20000 20 Tryz.Ug.1=true:=by kernel_rfl
theorem Tryz.afB:L9 Tryz.prog plan Tryz.link 4542 16 [5,8,9,10,72,83,84,322,1426,1805,2519,2520,2521,3940,4336,4403,4454,4504,4505,4508,4509,4520,4526,4534,4536,4539,4541,4549,4550] Tryz.Ug.2=some Tryz.adf:=by kernel_rfl
theorem Tryz.afC:uX Tryz.prog plan Tryz.link [.run 4,.close,.drain [[14,22,205]] [5,8,9,10,72,83,84,322,1426,1805,2519,2520,2521,3940,4336,4403,4454,4504,4505,4508,4509,4520,4526,4534,4536,4554]] (.joined 4540 4 [.int .i64 (.ofNat 3)]) Tryz.adf=some (.idle,Tryz.Uh):=by kernel_rfl
theorem Tryz.afD:kF Tryz.Uh=some Tryz.adg:=by kernel_rfl
end Go.Am
