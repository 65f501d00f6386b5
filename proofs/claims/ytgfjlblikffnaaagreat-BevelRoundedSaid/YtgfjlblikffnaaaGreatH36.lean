import Derived.Test.YtgfjlblikffnaaaGreatH31
set_option linter.unusedVariables false
set_option linter.unusedSectionVars false
set_option linter.unusedSimpArgs false
namespace Go.Am
open Go.Proofs
theorem Tryz.abx:(List.map (aB Tryz.prog plan Tryz.tT Tryz.tF 2000 20 true [5,8,9,10,72,83,84,322,1426,1427,1428,1483,1489,1792] 2 Tryz.KU) [3,4])=List.map (fun _=>some Tryz.Qw) [3,4]:=by kernel_rfl
theorem Tryz.aby:(List.map (aB Tryz.prog plan Tryz.tT Tryz.tF 2000 20 true [5,8,9,10,72,83,84,322,1426,1427,1428,1483,1489,1792] 3 Tryz.KU) [0,1,2])=List.map (fun _=>some Tryz.Qw) [0,1,2]:=by kernel_rfl
theorem Tryz.abz:(List.map (aB Tryz.prog plan Tryz.tT Tryz.tF 2000 20 true [5,8,9,10,72,83,84,322,1426,1427,1428,1483,1489,1792] 3 Tryz.KU) [3,4])=List.map (fun _=>some Tryz.Qw) [3,4]:=by kernel_rfl
theorem Tryz.abA:(List.map (aB Tryz.prog plan Tryz.tT Tryz.tF 2000 20 true [5,8,9,10,72,83,84,322,1426,1427,1428,1483,1489,1792] 4 Tryz.KU) [0,1,2])=List.map (fun _=>some Tryz.Qw) [0,1,2]:=by kernel_rfl
theorem Tryz.abB:(List.map (aB Tryz.prog plan Tryz.tT Tryz.tF 2000 20 true [5,8,9,10,72,83,84,322,1426,1427,1428,1483,1489,1792] 4 Tryz.KU) [3,4])=List.map (fun _=>some Tryz.Qw) [3,4]:=by kernel_rfl
theorem Tryz.abC:(List.map (aB Tryz.prog plan Tryz.tT Tryz.tF 2000 20 true [5,8,9,10,72,83,84,322,1426,1427,1428,1483,1489,1792] 5 Tryz.KU) [0,1,2])=List.map (fun _=>some Tryz.Qw) [0,1,2]:=by kernel_rfl
end Go.Am
