import Derived.Test.YtgfjlblikffnaaaGreatH31
set_option linter.unusedVariables false
set_option linter.unusedSectionVars false
set_option linter.unusedSimpArgs false
namespace Go.Am
open Go.Proofs
theorem Tryz.to1:stepS Tryz.prog plan Tryz.tT Tryz.tF 5600 [5,8,9,10,72,83,84,322,697,747,748,749] Tryz.st0=some Tryz.st1:=by kernel_rfl
theorem Tryz.to2:stepS Tryz.prog plan Tryz.tT Tryz.tF 5284 [5,8,9,10,72,83,84,322,1053,1054,1108,1114,1413,1414,1415] Tryz.st1=some Tryz.st2:=by kernel_rfl
theorem Tryz.afr:lK Tryz.prog Tryz.st2=some 6:=by kernel_rfl
theorem Tryz.afs:(List.range 6).map (lg Tryz.prog plan Tryz.tT Tryz.tF 2000 Tryz.st2)=(List.range 6).map fun _=>some 5:=by kernel_rfl
theorem Tryz.abe:(List.map (aB Tryz.prog plan Tryz.tT Tryz.tF 2000 20 true [5,8,9,10,72,83,84,322,1053,1054,1108,1114,1413] 0 Tryz.st2) [0,1,2])=List.map (fun _=>some Tryz.Qv) [0,1,2]:=by kernel_rfl
theorem Tryz.abf:(List.map (aB Tryz.prog plan Tryz.tT Tryz.tF 2000 20 true [5,8,9,10,72,83,84,322,1053,1054,1108,1114,1413] 0 Tryz.st2) [3,4])=List.map (fun _=>some Tryz.Qv) [3,4]:=by kernel_rfl
end Go.Am
