import Derived.Test.YtjgfemidkffdjaaGreatH32
set_option linter.all false
namespace Go.Am
open Go.Proofs
theorem aaA:(List.range 5).map (lV Tryz.prog plan ai ah 2000 dB)=(List.range 5).map fun _=>some 4:=by kernel_rfl
theorem Pm:(List.map (aj Tryz.prog plan ai ah 2000 20 false [9,11,12,13,80,1072,1421,1783,2143,2144,2214,2780,2817,3093,3094,3095,3096,3097,3261] 0 dB) [2])=List.map (fun _=>some dJ) [2]:=by kernel_rfl
theorem FC:eG Tryz.prog plan ai ah 2000 20 1 [9,11,2817,3095,3263,3264] 0 jL=some (List.replicate 24 (some lJ)):=by kernel_rfl
end Go.Am
namespace Go.Am
open Go.Proofs
theorem JP:jc Tryz.prog jM=some 5:=by kernel_rfl
end Go.Am
namespace Go.Am
open Go.Proofs
theorem PZ:(List.map (aj Tryz.prog plan ai ah 2000 20 false [9,11,12,13,80,1072,1421,1783,2143,2144,2214,3266,3303,3579,3580,3581,3582,3746] 1 dD) [1])=List.map (fun _=>some dK) [1]:=by kernel_rfl
theorem P9:(List.map (aj Tryz.prog plan ai ah 2000 20 false [9,11,12,13,80,1072,1421,1783,2143,2144,2214,3266,3303,3579,3580,3581,3582,3746] 2 dD) [2])=List.map (fun _=>some dK) [2]:=by kernel_rfl
theorem ac3:TQ Tryz.prog plan bD 3584 16 3582 [-3,6] [9,11,12,13,80,1072,1421,1783,2143,2144,2214,3266,3303,3579,3580,3581,3582,3746,3749] uw.2=some Un:=by kernel_rfl
theorem QA:(List.map (aj Tryz.prog plan ai ah 2000 20 true [9,11,12,13,80,1072,1421,1783,2143,2144,2214,3751,3783,3789,4094] 5 dL) [0,1])=List.map (fun _=>some eP) [0,1]:=by kernel_rfl
theorem QS:(List.map (aj Tryz.prog plan ai ah 2000 20 true [9,11,12,13,80,1072,1421,1783,2143,2144,2214,3751,3783,3789,4094,4105] 4 dM) [0,1])=List.map (fun _=>some eU) [0,1]:=by kernel_rfl
theorem QU:(List.map (aj Tryz.prog plan ai ah 2000 20 true [9,11,12,13,80,1072,1421,1783,2143,2144,2214,3751,3783,3789,4094,4105] 4 dM) [4])=List.map (fun _=>some eU) [4]:=by kernel_rfl
end Go.Am
