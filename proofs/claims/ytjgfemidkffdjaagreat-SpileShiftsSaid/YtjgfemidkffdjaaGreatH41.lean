import Derived.Test.YtjgfemidkffdjaaGreatH32
set_option linter.all false
namespace Go.Am
open Go.Proofs
theorem ac0:stepS Tryz.prog plan ai ah 106 [9,11,12,13,80,1072,1421,1783,2143,2144,2214,3266,3303,3579,3580,3581,3582,3585,3586] Um=some dD:=by kernel_rfl
theorem aaJ:jc Tryz.prog dD=some 5:=by kernel_rfl
theorem aaK:(List.range 5).map (lV Tryz.prog plan ai ah 2000 dD)=(List.range 5).map fun _=>some 4:=by kernel_rfl
theorem PU:(List.map (aj Tryz.prog plan ai ah 2000 20 false [9,11,12,13,80,1072,1421,1783,2143,2144,2214,3266,3303,3579,3580,3581,3582,3746] 0 dD) [0])=List.map (fun _=>some dK) [0]:=by kernel_rfl
theorem PV:(List.map (aj Tryz.prog plan ai ah 2000 20 false [9,11,12,13,80,1072,1421,1783,2143,2144,2214,3266,3303,3579,3580,3581,3582,3746] 0 dD) [1])=List.map (fun _=>some dK) [1]:=by kernel_rfl
theorem PW:(List.map (aj Tryz.prog plan ai ah 2000 20 false [9,11,12,13,80,1072,1421,1783,2143,2144,2214,3266,3303,3579,3580,3581,3582,3746] 0 dD) [2])=List.map (fun _=>some dK) [2]:=by kernel_rfl
theorem PX:(List.map (aj Tryz.prog plan ai ah 2000 20 false [9,11,12,13,80,1072,1421,1783,2143,2144,2214,3266,3303,3579,3580,3581,3582,3746] 0 dD) [3])=List.map (fun _=>some dK) [3]:=by kernel_rfl
theorem PY:(List.map (aj Tryz.prog plan ai ah 2000 20 false [9,11,12,13,80,1072,1421,1783,2143,2144,2214,3266,3303,3579,3580,3581,3582,3746] 1 dD) [0])=List.map (fun _=>some dK) [0]:=by kernel_rfl
theorem PZ:(List.map (aj Tryz.prog plan ai ah 2000 20 false [9,11,12,13,80,1072,1421,1783,2143,2144,2214,3266,3303,3579,3580,3581,3582,3746] 1 dD) [1])=List.map (fun _=>some dK) [1]:=by kernel_rfl
theorem P5:(List.map (aj Tryz.prog plan ai ah 2000 20 false [9,11,12,13,80,1072,1421,1783,2143,2144,2214,3266,3303,3579,3580,3581,3582,3746] 1 dD) [2])=List.map (fun _=>some dK) [2]:=by kernel_rfl
theorem P6:(List.map (aj Tryz.prog plan ai ah 2000 20 false [9,11,12,13,80,1072,1421,1783,2143,2144,2214,3266,3303,3579,3580,3581,3582,3746] 1 dD) [3])=List.map (fun _=>some dK) [3]:=by kernel_rfl
theorem P7:(List.map (aj Tryz.prog plan ai ah 2000 20 false [9,11,12,13,80,1072,1421,1783,2143,2144,2214,3266,3303,3579,3580,3581,3582,3746] 2 dD) [0])=List.map (fun _=>some dK) [0]:=by kernel_rfl
theorem P8:(List.map (aj Tryz.prog plan ai ah 2000 20 false [9,11,12,13,80,1072,1421,1783,2143,2144,2214,3266,3303,3579,3580,3581,3582,3746] 2 dD) [1])=List.map (fun _=>some dK) [1]:=by kernel_rfl
end Go.Am
