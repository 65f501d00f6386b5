import Derived.Test.YtjgfemidkffdjaaGreatH32
set_option linter.all false
namespace Go.Am
open Go.Proofs
theorem VW:(List.map (aj Tryz.prog plan ai ah 2000 20 true [9,11,12,13,80,1072,1421,1422,1457,1463,1768] 0 gm) [0,1])=List.map (fun _=>some iC) [0,1]:=by kernel_rfl
theorem VY:(List.map (aj Tryz.prog plan ai ah 2000 20 true [9,11,12,13,80,1072,1421,1422,1457,1463,1768] 0 gm) [4])=List.map (fun _=>some iC) [4]:=by kernel_rfl
theorem Ws:(List.map (aj Tryz.prog plan ai ah 2000 20 true [9,11,12,13,80,1072,1421,1783,1784,1819,1825,2130] 0 gp) [2,3])=List.map (fun _=>some iD) [2,3]:=by kernel_rfl
theorem PX:(List.map (aj Tryz.prog plan ai ah 2000 20 false [9,11,12,13,80,1072,1421,1783,2143,2144,2214,3266,3303,3579,3580,3581,3582,3746] 0 dD) [3])=List.map (fun _=>some dK) [3]:=by kernel_rfl
theorem Qa:(List.map (aj Tryz.prog plan ai ah 2000 20 false [9,11,12,13,80,1072,1421,1783,2143,2144,2214,3266,3303,3579,3580,3581,3582,3746] 2 dD) [3])=List.map (fun _=>some dK) [3]:=by kernel_rfl
theorem Qh:(List.map (aj Tryz.prog plan ai ah 2000 20 false [9,11,12,13,80,1072,1421,1783,2143,2144,2214,3266,3303,3579,3580,3581,3582,3746] 4 dD) [1])=List.map (fun _=>some dK) [1]:=by kernel_rfl
theorem ac1:stepS Tryz.prog plan ai ah 4 [9,11,12,13,80,1072,1421,1783,2143,2144,2214,3266,3303,3579,3580,3581,3582,3746,3747] dK=some BP:=by kernel_rfl
theorem MH:Aw Tryz.prog plan ai ah 113 [9,11,3303,3580,3749,3750,3751,3752] uw.1=some jQ:=by kernel_rfl
end Go.Am
namespace Go.Am
open Go.Proofs
theorem ac5:stepS Tryz.prog plan ai ah 122 [9,11,12,13,80,1072,1421,1783,2143,2144,2214,3751,3783,3789,4094,4105,4107,4108] eP=some dM:=by kernel_rfl
theorem QI:(List.map (aj Tryz.prog plan ai ah 2000 20 true [9,11,12,13,80,1072,1421,1783,2143,2144,2214,3751,3783,3789,4094,4105] 1 dM) [4])=List.map (fun _=>some eU) [4]:=by kernel_rfl
end Go.Am
