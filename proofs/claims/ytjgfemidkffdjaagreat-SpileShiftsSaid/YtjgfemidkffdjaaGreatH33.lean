import Derived.Test.YtjgfemidkffdjaaGreatH32
set_option linter.all false
namespace Go.Am
open Go.Proofs
theorem V3:(List.map (aj Tryz.prog plan ai ah 2000 20 true [9,11,12,13,80,1072,1421,1422,1457,1463,1768] 1 gm) [2,3])=List.map (fun _=>some iC) [2,3]:=by kernel_rfl
theorem Wh:(List.map (aj Tryz.prog plan ai ah 2000 20 true [9,11,12,13,80,1072,1421,1422,1457,1463,1768] 4 gm) [0,1])=List.map (fun _=>some iC) [0,1]:=by kernel_rfl
theorem Wu:(List.map (aj Tryz.prog plan ai ah 2000 20 true [9,11,12,13,80,1072,1421,1783,1784,1819,1825,2130] 0 gp) [4])=List.map (fun _=>some iD) [4]:=by kernel_rfl
theorem Qb:(List.map (aj Tryz.prog plan ai ah 2000 20 false [9,11,12,13,80,1072,1421,1783,2143,2144,2214,3266,3303,3579,3580,3581,3582,3746] 3 dD) [0])=List.map (fun _=>some dK) [0]:=by kernel_rfl
theorem Qe:(List.map (aj Tryz.prog plan ai ah 2000 20 false [9,11,12,13,80,1072,1421,1783,2143,2144,2214,3266,3303,3579,3580,3581,3582,3746] 3 dD) [3])=List.map (fun _=>some dK) [3]:=by kernel_rfl
theorem JQ:jc Tryz.prog jO=some 5:=by kernel_rfl
end Go.Am
namespace Go.Am
open Go.Proofs
theorem aaO:Az Tryz.prog plan ai ah bD uj 3584 3583 3582 60 400 BJ JD BK 1 0 2 lN=true:=by kernel_rfl
theorem Qq:(List.map (aj Tryz.prog plan ai ah 2000 20 true [9,11,12,13,80,1072,1421,1783,2143,2144,2214,3751,3783,3789,4094] 2 dL) [0,1])=List.map (fun _=>some eP) [0,1]:=by kernel_rfl
theorem aaV:jc Tryz.prog dN=some 6:=by kernel_rfl
theorem ac8:stepS Tryz.prog plan ai ah 4330 [9,11,12,13,80,1072,1421,1783,2143,2144,2214,4140,4270,4272,4891,5028,5030,5388,5390,5391,5513,5523,5524,5562] Uo=some Ur:=by kernel_rfl
end Go.Am
