import Derived.Test.YtgfjlblikffnaaaGreatH31
set_option linter.unusedVariables false
set_option linter.unusedSectionVars false
set_option linter.unusedSimpArgs false
namespace Go.Am
open Go.Proofs
theorem Tryz.afu:(List.range 6).map (lg Tryz.prog plan Tryz.tT Tryz.tF 2000 Tryz.KU)=(List.range 6).map fun _=>some 5:=by kernel_rfl
theorem Tryz.abr:(List.map (aB Tryz.prog plan Tryz.tT Tryz.tF 2000 20 true [5,8,9,10,72,83,84,322,1426,1427,1428,1483,1489,1792] 0 Tryz.KU) [0,1,2])=List.map (fun _=>some Tryz.Qw) [0,1,2]:=by kernel_rfl
theorem Tryz.abt:(List.map (aB Tryz.prog plan Tryz.tT Tryz.tF 2000 20 true [5,8,9,10,72,83,84,322,1426,1427,1428,1483,1489,1792] 0 Tryz.KU) [3,4])=List.map (fun _=>some Tryz.Qw) [3,4]:=by kernel_rfl
theorem Tryz.abu:(List.map (aB Tryz.prog plan Tryz.tT Tryz.tF 2000 20 true [5,8,9,10,72,83,84,322,1426,1427,1428,1483,1489,1792] 1 Tryz.KU) [0,1,2])=List.map (fun _=>some Tryz.Qw) [0,1,2]:=by kernel_rfl
theorem Tryz.abv:(List.map (aB Tryz.prog plan Tryz.tT Tryz.tF 2000 20 true [5,8,9,10,72,83,84,322,1426,1427,1428,1483,1489,1792] 1 Tryz.KU) [3,4])=List.map (fun _=>some Tryz.Qw) [3,4]:=by kernel_rfl
theorem Tryz.abw:(List.map (aB Tryz.prog plan Tryz.tT Tryz.tF 2000 20 true [5,8,9,10,72,83,84,322,1426,1427,1428,1483,1489,1792] 2 Tryz.KU) [0,1,2])=List.map (fun _=>some Tryz.Qw) [0,1,2]:=by kernel_rfl
end Go.Am
