import Derived.Test.YtjgfemidkffdjaaGreatH32
set_option linter.all false
namespace Go.Am
open Go.Proofs
theorem We:(List.map (aj Tryz.prog plan ai ah 2000 20 true [9,11,12,13,80,1072,1421,1422,1457,1463,1768] 3 gm) [4])=List.map (fun _=>some iC) [4]:=by kernel_rfl
theorem Wl:(List.map (aj Tryz.prog plan ai ah 2000 20 true [9,11,12,13,80,1072,1421,1422,1457,1463,1768] 5 gm) [0,1])=List.map (fun _=>some iC) [0,1]:=by kernel_rfl
theorem Wv:(List.map (aj Tryz.prog plan ai ah 2000 20 true [9,11,12,13,80,1072,1421,1783,1784,1819,1825,2130] 1 gp) [0,1])=List.map (fun _=>some iD) [0,1]:=by kernel_rfl
theorem acZ:muG Tryz.prog plan bD uj 2 3 [9,11,12,13,80,1072,1421,1783,2143,2144,2214,3266,3303,3579,3580,3581,3582] BO=some (3583,3584,Um):=by kernel_rfl
theorem Gl:eG Tryz.prog plan ai ah 2000 20 1 [9,11,3303,3580,3749,3750] 3 jQ=some (List.replicate 24 (some lQ)):=by kernel_rfl
end Go.Am
namespace Go.Am
open Go.Proofs
theorem Ql:(List.map (aj Tryz.prog plan ai ah 2000 20 true [9,11,12,13,80,1072,1421,1783,2143,2144,2214,3751,3783,3789,4094] 0 dL) [2,3])=List.map (fun _=>some eP) [2,3]:=by kernel_rfl
theorem Qn:(List.map (aj Tryz.prog plan ai ah 2000 20 true [9,11,12,13,80,1072,1421,1783,2143,2144,2214,3751,3783,3789,4094] 1 dL) [0,1])=List.map (fun _=>some eP) [0,1]:=by kernel_rfl
theorem QH:(List.map (aj Tryz.prog plan ai ah 2000 20 true [9,11,12,13,80,1072,1421,1783,2143,2144,2214,3751,3783,3789,4094,4105] 1 dM) [2,3])=List.map (fun _=>some eU) [2,3]:=by kernel_rfl
theorem QM:(List.map (aj Tryz.prog plan ai ah 2000 20 true [9,11,12,13,80,1072,1421,1783,2143,2144,2214,3751,3783,3789,4094,4105] 3 dM) [0,1])=List.map (fun _=>some eU) [0,1]:=by kernel_rfl
end Go.Am
