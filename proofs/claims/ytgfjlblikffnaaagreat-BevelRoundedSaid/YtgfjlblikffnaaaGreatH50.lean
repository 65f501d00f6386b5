import Derived.Test.YtgfjlblikffnaaaGreatH31
set_option linter.unusedVariables false
set_option linter.unusedSectionVars false
set_option linter.unusedSimpArgs false
namespace Go.Am
open Go.Proofs
theorem Tryz.Y7:(List.map (aB Tryz.prog plan Tryz.tT Tryz.tF 2000 20 true [5,8,9,10,72,83,84,322,1426,1805,2519,2520,2521,3940,4336,4403,4534,4563,4613,4619,4919,4957] 3 Tryz.sO) [3,4])=List.map (fun _=>some Tryz.vP) [3,4]:=by kernel_rfl
theorem Tryz.Y8:(List.map (aB Tryz.prog plan Tryz.tT Tryz.tF 2000 20 true [5,8,9,10,72,83,84,322,1426,1805,2519,2520,2521,3940,4336,4403,4534,4563,4613,4619,4919,4957] 4 Tryz.sO) [0,1,2])=List.map (fun _=>some Tryz.vP) [0,1,2]:=by kernel_rfl
theorem Tryz.Y9:(List.map (aB Tryz.prog plan Tryz.tT Tryz.tF 2000 20 true [5,8,9,10,72,83,84,322,1426,1805,2519,2520,2521,3940,4336,4403,4534,4563,4613,4619,4919,4957] 4 Tryz.sO) [3,4])=List.map (fun _=>some Tryz.vP) [3,4]:=by kernel_rfl
theorem Tryz.Za:(List.map (aB Tryz.prog plan Tryz.tT Tryz.tF 2000 20 true [5,8,9,10,72,83,84,322,1426,1805,2519,2520,2521,3940,4336,4403,4534,4563,4613,4619,4919,4957] 5 Tryz.sO) [0,1,2])=List.map (fun _=>some Tryz.vP) [0,1,2]:=by kernel_rfl
theorem Tryz.Zb:(List.map (aB Tryz.prog plan Tryz.tT Tryz.tF 2000 20 true [5,8,9,10,72,83,84,322,1426,1805,2519,2520,2521,3940,4336,4403,4534,4563,4613,4619,4919,4957] 5 Tryz.sO) [3,4])=List.map (fun _=>some Tryz.vP) [3,4]:=by kernel_rfl
theorem Tryz.afN:stepS Tryz.prog plan Tryz.tT Tryz.tF 5860 [5,8,9,10,72,83,84,322,1426,1805,2519,2520,2521,3940,4336,4403,4534,4973,5204,5206,5208,5209,5210,5713,5715,5716,5771] Tryz.vP=some Tryz.adh:=by kernel_rfl
end Go.Am
