import Derived.Test.YtgfjlblikffnaaaGreatH31
set_option linter.unusedVariables false
set_option linter.unusedSectionVars false
set_option linter.unusedSimpArgs false
namespace Go.Am
open Go.Proofs
theorem Tryz.Y1:(List.map (aB Tryz.prog plan Tryz.tT Tryz.tF 2000 20 true [5,8,9,10,72,83,84,322,1426,1805,2519,2520,2521,3940,4336,4403,4534,4563,4613,4619,4919,4957] 0 Tryz.sO) [3,4])=List.map (fun _=>some Tryz.vP) [3,4]:=by kernel_rfl
theorem Tryz.Y2:(List.map (aB Tryz.prog plan Tryz.tT Tryz.tF 2000 20 true [5,8,9,10,72,83,84,322,1426,1805,2519,2520,2521,3940,4336,4403,4534,4563,4613,4619,4919,4957] 1 Tryz.sO) [0,1,2])=List.map (fun _=>some Tryz.vP) [0,1,2]:=by kernel_rfl
theorem Tryz.Y3:(List.map (aB Tryz.prog plan Tryz.tT Tryz.tF 2000 20 true [5,8,9,10,72,83,84,322,1426,1805,2519,2520,2521,3940,4336,4403,4534,4563,4613,4619,4919,4957] 1 Tryz.sO) [3,4])=List.map (fun _=>some Tryz.vP) [3,4]:=by kernel_rfl
theorem Tryz.Y4:(List.map (aB Tryz.prog plan Tryz.tT Tryz.tF 2000 20 true [5,8,9,10,72,83,84,322,1426,1805,2519,2520,2521,3940,4336,4403,4534,4563,4613,4619,4919,4957] 2 Tryz.sO) [0,1,2])=List.map (fun _=>some Tryz.vP) [0,1,2]:=by kernel_rfl
theorem Tryz.Y5:(List.map (aB Tryz.prog plan Tryz.tT Tryz.tF 2000 20 true [5,8,9,10,72,83,84,322,1426,1805,2519,2520,2521,3940,4336,4403,4534,4563,4613,4619,4919,4957] 2 Tryz.sO) [3,4])=List.map (fun _=>some Tryz.vP) [3,4]:=by kernel_rfl
theorem Tryz.Y6:(List.map (aB Tryz.prog plan Tryz.tT Tryz.tF 2000 20 true [5,8,9,10,72,83,84,322,1426,1805,2519,2520,2521,3940,4336,4403,4534,4563,4613,4619,4919,4957] 3 Tryz.sO) [0,1,2])=List.map (fun _=>some Tryz.vP) [0,1,2]:=by kernel_rfl
end Go.Am
