import Derived.Test.YtjgfemidkffdjaaGreatH32
set_option linter.all false
namespace Go.Am
open Go.Proofs
theorem Pn:(List.map (aj Tryz.prog plan ai ah 2000 20 false [9,11,12,13,80,1072,1421,1783,2143,2144,2214,2780,2817,3093,3094,3095,3096,3097,3261] 0 dB) [3])=List.map (fun _=>some dJ) [3]:=by kernel_rfl
theorem FM:eG Tryz.prog plan ai ah 2000 20 1 [9,11,2817,3095,3263,3264] 3 jL=some (List.replicate 24 (some lJ)):=by kernel_rfl
end Go.Am
namespace Go.Am
open Go.Proofs
theorem aaL:iU Tryz.prog plan bD 3584 2 3 yg=some mF:=by kernel_rfl
theorem F9:eG Tryz.prog plan ai ah 2000 20 1 [9,11,3303,3580,3748,3749] 2 jP=some (List.replicate 24 (some lN)):=by kernel_rfl
end Go.Am
namespace Go.Am
open Go.Proofs
theorem Qk:(List.map (aj Tryz.prog plan ai ah 2000 20 true [9,11,12,13,80,1072,1421,1783,2143,2144,2214,3751,3783,3789,4094] 0 dL) [0,1])=List.map (fun _=>some eP) [0,1]:=by kernel_rfl
theorem Qo:(List.map (aj Tryz.prog plan ai ah 2000 20 true [9,11,12,13,80,1072,1421,1783,2143,2144,2214,3751,3783,3789,4094] 1 dL) [2,3])=List.map (fun _=>some eP) [2,3]:=by kernel_rfl
theorem QK:(List.map (aj Tryz.prog plan ai ah 2000 20 true [9,11,12,13,80,1072,1421,1783,2143,2144,2214,3751,3783,3789,4094,4105] 2 dM) [2,3])=List.map (fun _=>some eU) [2,3]:=by kernel_rfl
theorem QN:(List.map (aj Tryz.prog plan ai ah 2000 20 true [9,11,12,13,80,1072,1421,1783,2143,2144,2214,3751,3783,3789,4094,4105] 3 dM) [2,3])=List.map (fun _=>some eU) [2,3]:=by kernel_rfl
theorem Rh:(List.map (aj Tryz.prog plan ai ah 2000 20 true [9,11,12,13,80,1072,1421,1783,2143,2144,2214,3751,3783,3789,4094,4121] 3 dN) [0,1])=List.map (fun _=>some eX) [0,1]:=by kernel_rfl
end Go.Am
