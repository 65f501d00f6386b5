import Derived.Test.YtgfjlblikffnaaaGreatH31
set_option linter.unusedVariables false
set_option linter.unusedSectionVars false
set_option linter.unusedSimpArgs false
namespace Go.Am
open Go.Proofs
theorem Tryz.abg:(List.map (aB Tryz.prog plan Tryz.tT Tryz.tF 2000 20 true [5,8,9,10,72,83,84,322,1053,1054,1108,1114,1413] 1 Tryz.st2) [0,1,2])=List.map (fun _=>some Tryz.Qv) [0,1,2]:=by kernel_rfl
theorem Tryz.abh:(List.map (aB Tryz.prog plan Tryz.tT Tryz.tF 2000 20 true [5,8,9,10,72,83,84,322,1053,1054,1108,1114,1413] 1 Tryz.st2) [3,4])=List.map (fun _=>some Tryz.Qv) [3,4]:=by kernel_rfl
theorem Tryz.abj:(List.map (aB Tryz.prog plan Tryz.tT Tryz.tF 2000 20 true [5,8,9,10,72,83,84,322,1053,1054,1108,1114,1413] 2 Tryz.st2) [0,1,2])=List.map (fun _=>some Tryz.Qv) [0,1,2]:=by kernel_rfl
theorem Tryz.abk:(List.map (aB Tryz.prog plan Tryz.tT Tryz.tF 2000 20 true [5,8,9,10,72,83,84,322,1053,1054,1108,1114,1413] 2 Tryz.st2) [3,4])=List.map (fun _=>some Tryz.Qv) [3,4]:=by kernel_rfl
theorem Tryz.abl:(List.map (aB Tryz.prog plan Tryz.tT Tryz.tF 2000 20 true [5,8,9,10,72,83,84,322,1053,1054,1108,1114,1413] 3 Tryz.st2) [0,1,2])=List.map (fun _=>some Tryz.Qv) [0,1,2]:=by kernel_rfl
theorem Tryz.abm:(List.map (aB Tryz.prog plan Tryz.tT Tryz.tF 2000 20 true [5,8,9,10,72,83,84,322,1053,1054,1108,1114,1413] 3 Tryz.st2) [3,4])=List.map (fun _=>some Tryz.Qv) [3,4]:=by kernel_rfl
end Go.Am
