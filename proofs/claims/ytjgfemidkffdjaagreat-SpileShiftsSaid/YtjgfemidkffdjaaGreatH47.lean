import Derived.Test.YtjgfemidkffdjaaGreatH32
set_option linter.all false
namespace Go.Am
open Go.Proofs
theorem Wj:(List.map (aj Tryz.prog plan ai ah 2000 20 true [9,11,12,13,80,1072,1421,1422,1457,1463,1768] 4 gm) [4])=List.map (fun _=>some iC) [4]:=by kernel_rfl
theorem WH:(List.map (aj Tryz.prog plan ai ah 2000 20 true [9,11,12,13,80,1072,1421,1783,1784,1819,1825,2130] 3 gp) [4])=List.map (fun _=>some iD) [4]:=by kernel_rfl
theorem FN:eG Tryz.prog plan ai ah 2000 20 1 [9,11,2817,3095,3263,3264] 4 jL=some (List.replicate 24 (some lJ)):=by kernel_rfl
theorem ac0:stepS Tryz.prog plan ai ah 106 [9,11,12,13,80,1072,1421,1783,2143,2144,2214,3266,3303,3579,3580,3581,3582,3585,3586] Um=some dD:=by kernel_rfl
theorem PY:(List.map (aj Tryz.prog plan ai ah 2000 20 false [9,11,12,13,80,1072,1421,1783,2143,2144,2214,3266,3303,3579,3580,3581,3582,3746] 1 dD) [0])=List.map (fun _=>some dK) [0]:=by kernel_rfl
theorem Qc:(List.map (aj Tryz.prog plan ai ah 2000 20 false [9,11,12,13,80,1072,1421,1783,2143,2144,2214,3266,3303,3579,3580,3581,3582,3746] 3 dD) [1])=List.map (fun _=>some dK) [1]:=by kernel_rfl
theorem F7:eG Tryz.prog plan ai ah 2000 20 1 [9,11,3303,3580,3748,3749] 0 jP=some (List.replicate 24 (some lN)):=by kernel_rfl
end Go.Am
namespace Go.Am
open Go.Proofs
theorem Qz:(List.map (aj Tryz.prog plan ai ah 2000 20 true [9,11,12,13,80,1072,1421,1783,2143,2144,2214,3751,3783,3789,4094] 4 dL) [4])=List.map (fun _=>some eP) [4]:=by kernel_rfl
theorem Q7:(List.map (aj Tryz.prog plan ai ah 2000 20 true [9,11,12,13,80,1072,1421,1783,2143,2144,2214,3751,3783,3789,4094,4121] 1 dN) [4])=List.map (fun _=>some eX) [4]:=by kernel_rfl
end Go.Am
