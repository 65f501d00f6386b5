import Derived.Test.YtgfjlblikffnaaaGreatH31
set_option linter.unusedVariables false
set_option linter.unusedSectionVars false
set_option linter.unusedSimpArgs false
namespace Go.Am
open Go.Proofs
theorem Tryz.YY:(List.map (aB Tryz.prog plan Tryz.tT Tryz.tF 2000 20 true [5,8,9,10,72,83,84,322,1426,1805,2519,2520,2521,3940,4336,4403,4534,4563,4613,4619,4919,4944] 5 Tryz.sN) [0,1,2])=List.map (fun _=>some Tryz.vO) [0,1,2]:=by kernel_rfl
theorem Tryz.YZ:(List.map (aB Tryz.prog plan Tryz.tT Tryz.tF 2000 20 true [5,8,9,10,72,83,84,322,1426,1805,2519,2520,2521,3940,4336,4403,4534,4563,4613,4619,4919,4944] 5 Tryz.sN) [3,4])=List.map (fun _=>some Tryz.vO) [3,4]:=by kernel_rfl
theorem Tryz.afH:stepS Tryz.prog plan Tryz.tT Tryz.tF 122 [5,8,9,10,72,83,84,322,1426,1805,2519,2520,2521,3940,4336,4403,4534,4563,4613,4619,4919,4957,4959,4960] Tryz.vO=some Tryz.sO:=by kernel_rfl
theorem Tryz.adJ:lK Tryz.prog Tryz.sO=some 6:=by kernel_rfl
theorem Tryz.adK:(List.range 6).map (lg Tryz.prog plan Tryz.tT Tryz.tF 2000 Tryz.sO)=(List.range 6).map fun _=>some 5:=by kernel_rfl
theorem Tryz.Y0:(List.map (aB Tryz.prog plan Tryz.tT Tryz.tF 2000 20 true [5,8,9,10,72,83,84,322,1426,1805,2519,2520,2521,3940,4336,4403,4534,4563,4613,4619,4919,4957] 0 Tryz.sO) [0,1,2])=List.map (fun _=>some Tryz.vP) [0,1,2]:=by kernel_rfl
end Go.Am
