import Derived.Test.YtgfjlblikffnaaaGreatH31
set_option linter.unusedVariables false
set_option linter.unusedSectionVars false
set_option linter.unusedSimpArgs false
namespace Go.Am
open Go.Proofs
theorem Tryz.abM:uo Tryz.prog plan Tryz.tT Tryz.tF 2000 20 true [5,8,9,10,72,83,84,322,1426,1805,2519,2520,2521,3940,4336,4403,4534,4563,4613,4619,4919] 4 Tryz.Ji=some Tryz.KW:=by kernel_rfl
theorem Tryz.abN:uo Tryz.prog plan Tryz.tT Tryz.tF 2000 20 true [5,8,9,10,72,83,84,322,1426,1805,2519,2520,2521,3940,4336,4403,4534,4563,4613,4619,4919] 5 Tryz.Ji=some Tryz.KW:=by kernel_rfl
theorem Tryz.afF:stepS Tryz.prog plan Tryz.tT Tryz.tF 122 [5,8,9,10,72,83,84,322,1426,1805,2519,2520,2521,3940,4336,4403,4534,4563,4613,4619,4919,4930,4932,4933] Tryz.KW=some Tryz.sK:=by kernel_rfl
theorem Tryz.adF:lK Tryz.prog Tryz.sK=some 6:=by kernel_rfl
theorem Tryz.adG:(List.range 6).map (lg Tryz.prog plan Tryz.tT Tryz.tF 2000 Tryz.sK)=(List.range 6).map fun _=>some 5:=by kernel_rfl
theorem Tryz.YC:(List.map (aB Tryz.prog plan Tryz.tT Tryz.tF 2000 20 true [5,8,9,10,72,83,84,322,1426,1805,2519,2520,2521,3940,4336,4403,4534,4563,4613,4619,4919,4930] 0 Tryz.sK) [0,1,2])=List.map (fun _=>some Tryz.vN) [0,1,2]:=by kernel_rfl
end Go.Am
