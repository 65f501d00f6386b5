import Derived.Test.YtjgfemidkffdjaaGreatH32
set_option linter.all false
namespace Go.Am
open Go.Proofs
theorem P9:(List.map (aj Tryz.prog plan ai ah 2000 20 false [9,11,12,13,80,1072,1421,1783,2143,2144,2214,3266,3303,3579,3580,3581,3582,3746] 2 dD) [2])=List.map (fun _=>some dK) [2]:=by kernel_rfl
theorem Qa:(List.map (aj Tryz.prog plan ai ah 2000 20 false [9,11,12,13,80,1072,1421,1783,2143,2144,2214,3266,3303,3579,3580,3581,3582,3746] 2 dD) [3])=List.map (fun _=>some dK) [3]:=by kernel_rfl
theorem Qb:(List.map (aj Tryz.prog plan ai ah 2000 20 false [9,11,12,13,80,1072,1421,1783,2143,2144,2214,3266,3303,3579,3580,3581,3582,3746] 3 dD) [0])=List.map (fun _=>some dK) [0]:=by kernel_rfl
theorem Qc:(List.map (aj Tryz.prog plan ai ah 2000 20 false [9,11,12,13,80,1072,1421,1783,2143,2144,2214,3266,3303,3579,3580,3581,3582,3746] 3 dD) [1])=List.map (fun _=>some dK) [1]:=by kernel_rfl
theorem Qd:(List.map (aj Tryz.prog plan ai ah 2000 20 false [9,11,12,13,80,1072,1421,1783,2143,2144,2214,3266,3303,3579,3580,3581,3582,3746] 3 dD) [2])=List.map (fun _=>some dK) [2]:=by kernel_rfl
theorem Qe:(List.map (aj Tryz.prog plan ai ah 2000 20 false [9,11,12,13,80,1072,1421,1783,2143,2144,2214,3266,3303,3579,3580,3581,3582,3746] 3 dD) [3])=List.map (fun _=>some dK) [3]:=by kernel_rfl
theorem Qg:(List.map (aj Tryz.prog plan ai ah 2000 20 false [9,11,12,13,80,1072,1421,1783,2143,2144,2214,3266,3303,3579,3580,3581,3582,3746] 4 dD) [0])=List.map (fun _=>some dK) [0]:=by kernel_rfl
theorem Qh:(List.map (aj Tryz.prog plan ai ah 2000 20 false [9,11,12,13,80,1072,1421,1783,2143,2144,2214,3266,3303,3579,3580,3581,3582,3746] 4 dD) [1])=List.map (fun _=>some dK) [1]:=by kernel_rfl
theorem Qi:(List.map (aj Tryz.prog plan ai ah 2000 20 false [9,11,12,13,80,1072,1421,1783,2143,2144,2214,3266,3303,3579,3580,3581,3582,3746] 4 dD) [2])=List.map (fun _=>some dK) [2]:=by kernel_rfl
theorem Qj:(List.map (aj Tryz.prog plan ai ah 2000 20 false [9,11,12,13,80,1072,1421,1783,2143,2144,2214,3266,3303,3579,3580,3581,3582,3746] 4 dD) [3])=List.map (fun _=>some dK) [3]:=by kernel_rfl
theorem ac1:stepS Tryz.prog plan ai ah 4 [9,11,12,13,80,1072,1421,1783,2143,2144,2214,3266,3303,3579,3580,3581,3582,3746,3747] dK=some BP:=by kernel_rfl
theorem ac2:DT 3582 3 [0,0] [9,11,12,13,80,1072,1421,1783,2143,2144,2214,3266,3303,3579,3580,3581,3746,3747] BP=some yg:=by kernel_rfl
theorem aaL:iU Tryz.prog plan bD 3584 2 3 yg=some mF:=by kernel_rfl
end Go.Am
