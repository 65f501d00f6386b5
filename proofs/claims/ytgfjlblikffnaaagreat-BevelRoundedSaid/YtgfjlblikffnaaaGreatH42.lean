import Derived.Test.YtgfjlblikffnaaaGreatH31
set_option linter.unusedVariables false
set_option linter.unusedSectionVars false
set_option linter.unusedSimpArgs false
namespace Go.Am
open Go.Proofs
theorem Tryz.afE:stepS Tryz.prog plan Tryz.tT Tryz.tF 2937 [5,8,9,10,72,83,84,322,1426,1805,2519,2520,2521,3940,4336,4403,4534,4563,4613,4619,4919,4920,4921] Tryz.adg=some Tryz.Ji:=by kernel_rfl
theorem Tryz.adE:lK Tryz.prog Tryz.Ji=some 6:=by kernel_rfl
theorem Tryz.abI:uo Tryz.prog plan Tryz.tT Tryz.tF 2000 20 true [5,8,9,10,72,83,84,322,1426,1805,2519,2520,2521,3940,4336,4403,4534,4563,4613,4619,4919] 0 Tryz.Ji=some Tryz.KW:=by kernel_rfl
theorem Tryz.abJ:uo Tryz.prog plan Tryz.tT Tryz.tF 2000 20 true [5,8,9,10,72,83,84,322,1426,1805,2519,2520,2521,3940,4336,4403,4534,4563,4613,4619,4919] 1 Tryz.Ji=some Tryz.KW:=by kernel_rfl
theorem Tryz.abK:uo Tryz.prog plan Tryz.tT Tryz.tF 2000 20 true [5,8,9,10,72,83,84,322,1426,1805,2519,2520,2521,3940,4336,4403,4534,4563,4613,4619,4919] 2 Tryz.Ji=some Tryz.KW:=by kernel_rfl
theorem Tryz.abL:uo Tryz.prog plan Tryz.tT Tryz.tF 2000 20 true [5,8,9,10,72,83,84,322,1426,1805,2519,2520,2521,3940,4336,4403,4534,4563,4613,4619,4919] 3 Tryz.Ji=some Tryz.KW:=by kernel_rfl
end Go.Am
