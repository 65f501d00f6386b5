import Derived.Test.YtjgfemidkffdjaaGreatH32
set_option linter.all false
namespace Go.Am
open Go.Proofs
theorem WE:(List.map (aj Tryz.prog plan ai ah 2000 20 true [9,11,12,13,80,1072,1421,1783,1784,1819,1825,2130] 3 gp) [0,1])=List.map (fun _=>some iD) [0,1]:=by kernel_rfl
theorem acX:TQ Tryz.prog plan bD 3099 16 3097 [-3,6] [9,11,12,13,80,1072,1421,1783,2143,2144,2214,2780,2817,3093,3094,3095,3096,3097,3261,3264] uu.2=some Ul:=by kernel_rfl
theorem acY:stepS Tryz.prog plan ai ah 2455 [9,11,12,13,80,1072,1421,1783,2143,2144,2214,3266,3303,3579,3580,3581,3582] Ul=some BO:=by kernel_rfl
theorem PW:(List.map (aj Tryz.prog plan ai ah 2000 20 false [9,11,12,13,80,1072,1421,1783,2143,2144,2214,3266,3303,3579,3580,3581,3582,3746] 0 dD) [2])=List.map (fun _=>some dK) [2]:=by kernel_rfl
theorem FZ:eG Tryz.prog plan ai ah 2000 20 1 [9,11,3303,3580,3747,3748] 2 jO=some (List.replicate 24 (some lM)):=by kernel_rfl
end Go.Am
namespace Go.Am
open Go.Proofs
theorem Qp:(List.map (aj Tryz.prog plan ai ah 2000 20 true [9,11,12,13,80,1072,1421,1783,2143,2144,2214,3751,3783,3789,4094] 1 dL) [4])=List.map (fun _=>some eP) [4]:=by kernel_rfl
theorem QD:(List.map (aj Tryz.prog plan ai ah 2000 20 true [9,11,12,13,80,1072,1421,1783,2143,2144,2214,3751,3783,3789,4094,4105] 0 dM) [0,1])=List.map (fun _=>some eU) [0,1]:=by kernel_rfl
theorem QF:(List.map (aj Tryz.prog plan ai ah 2000 20 true [9,11,12,13,80,1072,1421,1783,2143,2144,2214,3751,3783,3789,4094,4105] 0 dM) [4])=List.map (fun _=>some eU) [4]:=by kernel_rfl
theorem QW:(List.map (aj Tryz.prog plan ai ah 2000 20 true [9,11,12,13,80,1072,1421,1783,2143,2144,2214,3751,3783,3789,4094,4105] 5 dM) [2,3])=List.map (fun _=>some eU) [2,3]:=by kernel_rfl
end Go.Am
