import Derived.Test.YtgfjlblikffnaaaGreatH31
set_option linter.unusedVariables false
set_option linter.unusedSectionVars false
set_option linter.unusedSimpArgs false
namespace Go.Am
open Go.Proofs
theorem Tryz.abD:(List.map (aB Tryz.prog plan Tryz.tT Tryz.tF 2000 20 true [5,8,9,10,72,83,84,322,1426,1427,1428,1483,1489,1792] 5 Tryz.KU) [3,4])=List.map (fun _=>some Tryz.Qw) [3,4]:=by kernel_rfl
theorem Tryz.to6:stepS Tryz.prog plan Tryz.tT Tryz.tF 5777 [5,8,9,10,72,83,84,322,1426,1805,2519,2520,2521,2522,2581] Tryz.Qw=some Tryz.st6:=by kernel_rfl
theorem Tryz.to7:stepS Tryz.prog plan Tryz.tT Tryz.tF 5585 [5,8,9,10,72,83,84,322,1426,1805,2519,2520,2521,3276,3326] Tryz.st6=some Tryz.st7:=by kernel_rfl
theorem Tryz.to8:stepS Tryz.prog plan Tryz.tT Tryz.tF 4967 [5,8,9,10,72,83,84,322,1426,1805,2519,2520,2521,3940,3941,3942,4001] Tryz.st7=some Tryz.st8:=by kernel_rfl
theorem Tryz.to9:stepS Tryz.prog plan Tryz.tT Tryz.tF 3192 [5,8,9,10,72,83,84,322,1426,1805,2519,2520,2521,3940,4336,4337,4387,4388,4391,4392,4403,4409,4417,4419,4422] Tryz.st8=some Tryz.st9:=by kernel_rfl
theorem Tryz.afv:uX Tryz.prog plan Tryz.link [.make,.run 5,.group,.forget [5,8,9,10,72,83,84,322,1426,1805,2519,2520,2521,3940,4336,4337,4387,4388,4391,4392,4403,4409,4417,4419,4422,4424]] .idle Tryz.st9=some (.ready 4423 4 4425,Tryz.Uc):=by kernel_rfl
end Go.Am
