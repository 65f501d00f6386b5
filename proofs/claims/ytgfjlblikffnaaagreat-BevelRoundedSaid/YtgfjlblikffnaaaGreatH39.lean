import Derived.Test.YtgfjlblikffnaaaGreatH31
set_option linter.unusedVariables false
set_option linter.unusedSectionVars false
set_option linter.unusedSimpArgs false
namespace Go.Am
open Go.Proofs
theorem Tryz.adq:dO Tryz.prog plan Tryz.link 4425 28 3 Tryz.BM.2=some Tryz.Ud:=by kernel_rfl
theorem Tryz.adr:rJ Tryz.prog plan Tryz.tT Tryz.tF Tryz.link 4425 4423 2 (some (.int .i64 (.ofNat 3))) 20000 20 Tryz.Ud.1=true:=by kernel_rfl
theorem Tryz.afw:L9 Tryz.prog plan Tryz.link 4425 16 [5,8,9,10,72,83,84,322,1426,1805,2519,2520,2521,3940,4336,4337,4387,4388,4391,4392,4403,4409,4417,4419,4422,4424,4432,4433] Tryz.Ud.2=some Tryz.ada:=by kernel_rfl
theorem Tryz.afx:uX Tryz.prog plan Tryz.link [.run 4,.close,.drain [[14,22,22,22,429],[14,22,22,22,479],[14,22,22,22,564],[14,22,22,22,514],[14,22,22,22,564],[14,22,22,22,614]] [5,8,9,10,72,83,84,322,1426,1805,2519,2520,2521,3940,4336,4337,4387,4388,4391,4392,4403,4409,4417,4419,4445]] (.joined 4423 4 [.int .i64 (.ofNat 1),.int .i64 (.ofNat 2),.int .i64 (.ofNat 3)]) Tryz.ada=some (.idle,Tryz.Ue):=by kernel_rfl
theorem Tryz.afy:kF Tryz.Ue=some Tryz.adb:=by kernel_rfl
theorem Tryz.afz:stepS Tryz.prog plan Tryz.tT Tryz.tF 965 [5,8,9,10,72,83,84,322,1426,1805,2519,2520,2521,3940,4336,4403,4454,4504,4505,4508,4509,4520,4526,4534,4536,4539] Tryz.adb=some Tryz.ade:=by kernel_rfl
end Go.Am
