import Derived.Test.YtgfjlblikffnaaaGreatH31
set_option linter.unusedVariables false
set_option linter.unusedSectionVars false
set_option linter.unusedSimpArgs false
namespace Go.Am
open Go.Proofs
theorem Tryz.adH:lK Tryz.prog Tryz.sN=some 6:=by kernel_rfl
theorem Tryz.adI:(List.range 6).map (lg Tryz.prog plan Tryz.tT Tryz.tF 2000 Tryz.sN)=(List.range 6).map fun _=>some 5:=by kernel_rfl
theorem Tryz.YO:(List.map (aB Tryz.prog plan Tryz.tT Tryz.tF 2000 20 true [5,8,9,10,72,83,84,322,1426,1805,2519,2520,2521,3940,4336,4403,4534,4563,4613,4619,4919,4944] 0 Tryz.sN) [0,1,2])=List.map (fun _=>some Tryz.vO) [0,1,2]:=by kernel_rfl
theorem Tryz.YP:(List.map (aB Tryz.prog plan Tryz.tT Tryz.tF 2000 20 true [5,8,9,10,72,83,84,322,1426,1805,2519,2520,2521,3940,4336,4403,4534,4563,4613,4619,4919,4944] 0 Tryz.sN) [3,4])=List.map (fun _=>some Tryz.vO) [3,4]:=by kernel_rfl
theorem Tryz.YQ:(List.map (aB Tryz.prog plan Tryz.tT Tryz.tF 2000 20 true [5,8,9,10,72,83,84,322,1426,1805,2519,2520,2521,3940,4336,4403,4534,4563,4613,4619,4919,4944] 1 Tryz.sN) [0,1,2])=List.map (fun _=>some Tryz.vO) [0,1,2]:=by kernel_rfl
theorem Tryz.YR:(List.map (aB Tryz.prog plan Tryz.tT Tryz.tF 2000 20 true [5,8,9,10,72,83,84,322,1426,1805,2519,2520,2521,3940,4336,4403,4534,4563,4613,4619,4919,4944] 1 Tryz.sN) [3,4])=List.map (fun _=>some Tryz.vO) [3,4]:=by kernel_rfl
end Go.Am
