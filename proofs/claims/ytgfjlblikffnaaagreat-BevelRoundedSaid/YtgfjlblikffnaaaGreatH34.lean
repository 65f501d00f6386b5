import Derived.Test.YtgfjlblikffnaaaGreatH31
set_option linter.unusedVariables false
set_option linter.unusedSectionVars false
set_option linter.unusedSimpArgs false
namespace Go.Am
open Go.Proofs
theorem Tryz.abn:(List.map (aB Tryz.prog plan Tryz.tT Tryz.tF 2000 20 true [5,8,9,10,72,83,84,322,1053,1054,1108,1114,1413] 4 Tryz.st2) [0,1,2])=List.map (fun _=>some Tryz.Qv) [0,1,2]:=by kernel_rfl
theorem Tryz.abo:(List.map (aB Tryz.prog plan Tryz.tT Tryz.tF 2000 20 true [5,8,9,10,72,83,84,322,1053,1054,1108,1114,1413] 4 Tryz.st2) [3,4])=List.map (fun _=>some Tryz.Qv) [3,4]:=by kernel_rfl
theorem Tryz.abp:(List.map (aB Tryz.prog plan Tryz.tT Tryz.tF 2000 20 true [5,8,9,10,72,83,84,322,1053,1054,1108,1114,1413] 5 Tryz.st2) [0,1,2])=List.map (fun _=>some Tryz.Qv) [0,1,2]:=by kernel_rfl
theorem Tryz.abq:(List.map (aB Tryz.prog plan Tryz.tT Tryz.tF 2000 20 true [5,8,9,10,72,83,84,322,1053,1054,1108,1114,1413] 5 Tryz.st2) [3,4])=List.map (fun _=>some Tryz.Qv) [3,4]:=by kernel_rfl
theorem Tryz.Yx:stepS Tryz.prog plan Tryz.tT Tryz.tF 2884 [5,8,9,10,72,83,84,322,1426,1427,1428,1483,1489,1792,1793,1794] Tryz.Qv=some Tryz.KU:=by kernel_rfl
theorem Tryz.aft:lK Tryz.prog Tryz.KU=some 6:=by kernel_rfl
end Go.Am
