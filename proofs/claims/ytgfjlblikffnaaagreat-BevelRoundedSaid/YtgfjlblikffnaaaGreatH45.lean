import Derived.Test.YtgfjlblikffnaaaGreatH31
set_option linter.unusedVariables false
set_option linter.unusedSectionVars false
set_option linter.unusedSimpArgs false
namespace Go.Am
open Go.Proofs
theorem Tryz.YJ:(List.map (aB Tryz.prog plan Tryz.tT Tryz.tF 2000 20 true [5,8,9,10,72,83,84,322,1426,1805,2519,2520,2521,3940,4336,4403,4534,4563,4613,4619,4919,4930] 3 Tryz.sK) [3,4])=List.map (fun _=>some Tryz.vN) [3,4]:=by kernel_rfl
theorem Tryz.YK:(List.map (aB Tryz.prog plan Tryz.tT Tryz.tF 2000 20 true [5,8,9,10,72,83,84,322,1426,1805,2519,2520,2521,3940,4336,4403,4534,4563,4613,4619,4919,4930] 4 Tryz.sK) [0,1,2])=List.map (fun _=>some Tryz.vN) [0,1,2]:=by kernel_rfl
theorem Tryz.YL:(List.map (aB Tryz.prog plan Tryz.tT Tryz.tF 2000 20 true [5,8,9,10,72,83,84,322,1426,1805,2519,2520,2521,3940,4336,4403,4534,4563,4613,4619,4919,4930] 4 Tryz.sK) [3,4])=List.map (fun _=>some Tryz.vN) [3,4]:=by kernel_rfl
theorem Tryz.YM:(List.map (aB Tryz.prog plan Tryz.tT Tryz.tF 2000 20 true [5,8,9,10,72,83,84,322,1426,1805,2519,2520,2521,3940,4336,4403,4534,4563,4613,4619,4919,4930] 5 Tryz.sK) [0,1,2])=List.map (fun _=>some Tryz.vN) [0,1,2]:=by kernel_rfl
theorem Tryz.YN:(List.map (aB Tryz.prog plan Tryz.tT Tryz.tF 2000 20 true [5,8,9,10,72,83,84,322,1426,1805,2519,2520,2521,3940,4336,4403,4534,4563,4613,4619,4919,4930] 5 Tryz.sK) [3,4])=List.map (fun _=>some Tryz.vN) [3,4]:=by kernel_rfl
theorem Tryz.afG:stepS Tryz.prog plan Tryz.tT Tryz.tF 141 [5,8,9,10,72,83,84,322,1426,1805,2519,2520,2521,3940,4336,4403,4534,4563,4613,4619,4919,4944,4947,4948] Tryz.vN=some Tryz.sN:=by kernel_rfl
end Go.Am
