import Derived.Test.YtjgfemidkffdjaaGreatH32
set_option linter.all false
namespace Go.Am
open Go.Proofs
theorem V5:(List.map (aj Tryz.prog plan ai ah 2000 20 true [9,11,12,13,80,1072,1421,1422,1457,1463,1768] 2 gm) [0,1])=List.map (fun _=>some iC) [0,1]:=by kernel_rfl
theorem Pj:(List.map (aj Tryz.prog plan ai ah 2000 20 false [9,11,12,13,80,1072,1421,1783,2143,2144,2214,2780,2817,3093,3094,3095,3096,3097,3261] 0 dB) [1])=List.map (fun _=>some dJ) [1]:=by kernel_rfl
theorem PR:(List.map (aj Tryz.prog plan ai ah 2000 20 false [9,11,12,13,80,1072,1421,1783,2143,2144,2214,2780,2817,3093,3094,3095,3096,3097,3261] 4 dB) [3])=List.map (fun _=>some dJ) [3]:=by kernel_rfl
theorem Qg:(List.map (aj Tryz.prog plan ai ah 2000 20 false [9,11,12,13,80,1072,1421,1783,2143,2144,2214,3266,3303,3579,3580,3581,3582,3746] 4 dD) [0])=List.map (fun _=>some dK) [0]:=by kernel_rfl
theorem F5:eG Tryz.prog plan ai ah 2000 20 1 [9,11,3303,3580,3747,3748] 3 jO=some (List.replicate 24 (some lM)):=by kernel_rfl
end Go.Am
namespace Go.Am
open Go.Proofs
theorem aaR:jc Tryz.prog dL=some 6:=by kernel_rfl
theorem Qm:(List.map (aj Tryz.prog plan ai ah 2000 20 true [9,11,12,13,80,1072,1421,1783,2143,2144,2214,3751,3783,3789,4094] 0 dL) [4])=List.map (fun _=>some eP) [4]:=by kernel_rfl
theorem aaU:(List.range 6).map (lV Tryz.prog plan ai ah 2000 dM)=(List.range 6).map fun _=>some 5:=by kernel_rfl
theorem QZ:(List.map (aj Tryz.prog plan ai ah 2000 20 true [9,11,12,13,80,1072,1421,1783,2143,2144,2214,3751,3783,3789,4094,4121] 0 dN) [2,3])=List.map (fun _=>some eX) [2,3]:=by kernel_rfl
theorem Rj:(List.map (aj Tryz.prog plan ai ah 2000 20 true [9,11,12,13,80,1072,1421,1783,2143,2144,2214,3751,3783,3789,4094,4121] 3 dN) [4])=List.map (fun _=>some eX) [4]:=by kernel_rfl
end Go.Am
