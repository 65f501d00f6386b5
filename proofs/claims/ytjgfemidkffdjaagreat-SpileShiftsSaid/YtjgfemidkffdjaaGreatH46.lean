import Derived.Test.YtjgfemidkffdjaaGreatH32
set_option linter.all false
namespace Go.Am
open Go.Proofs
theorem Qu:(List.map (aj Tryz.prog plan ai ah 2000 20 true [9,11,12,13,80,1072,1421,1783,2143,2144,2214,3751,3783,3789,4094] 3 dL) [0,1])=List.map (fun _=>some eP) [0,1]:=by kernel_rfl
theorem Qv:(List.map (aj Tryz.prog plan ai ah 2000 20 true [9,11,12,13,80,1072,1421,1783,2143,2144,2214,3751,3783,3789,4094] 3 dL) [2,3])=List.map (fun _=>some eP) [2,3]:=by kernel_rfl
theorem Qw:(List.map (aj Tryz.prog plan ai ah 2000 20 true [9,11,12,13,80,1072,1421,1783,2143,2144,2214,3751,3783,3789,4094] 3 dL) [4])=List.map (fun _=>some eP) [4]:=by kernel_rfl
theorem Qx:(List.map (aj Tryz.prog plan ai ah 2000 20 true [9,11,12,13,80,1072,1421,1783,2143,2144,2214,3751,3783,3789,4094] 4 dL) [0,1])=List.map (fun _=>some eP) [0,1]:=by kernel_rfl
theorem Qy:(List.map (aj Tryz.prog plan ai ah 2000 20 true [9,11,12,13,80,1072,1421,1783,2143,2144,2214,3751,3783,3789,4094] 4 dL) [2,3])=List.map (fun _=>some eP) [2,3]:=by kernel_rfl
theorem Qz:(List.map (aj Tryz.prog plan ai ah 2000 20 true [9,11,12,13,80,1072,1421,1783,2143,2144,2214,3751,3783,3789,4094] 4 dL) [4])=List.map (fun _=>some eP) [4]:=by kernel_rfl
theorem QA:(List.map (aj Tryz.prog plan ai ah 2000 20 true [9,11,12,13,80,1072,1421,1783,2143,2144,2214,3751,3783,3789,4094] 5 dL) [0,1])=List.map (fun _=>some eP) [0,1]:=by kernel_rfl
theorem QB:(List.map (aj Tryz.prog plan ai ah 2000 20 true [9,11,12,13,80,1072,1421,1783,2143,2144,2214,3751,3783,3789,4094] 5 dL) [2,3])=List.map (fun _=>some eP) [2,3]:=by kernel_rfl
theorem QC:(List.map (aj Tryz.prog plan ai ah 2000 20 true [9,11,12,13,80,1072,1421,1783,2143,2144,2214,3751,3783,3789,4094] 5 dL) [4])=List.map (fun _=>some eP) [4]:=by kernel_rfl
theorem ac5:stepS Tryz.prog plan ai ah 122 [9,11,12,13,80,1072,1421,1783,2143,2144,2214,3751,3783,3789,4094,4105,4107,4108] eP=some dM:=by kernel_rfl
theorem aaT:jc Tryz.prog dM=some 6:=by kernel_rfl
theorem aaU:(List.range 6).map (lV Tryz.prog plan ai ah 2000 dM)=(List.range 6).map fun _=>some 5:=by kernel_rfl
theorem QD:(List.map (aj Tryz.prog plan ai ah 2000 20 true [9,11,12,13,80,1072,1421,1783,2143,2144,2214,3751,3783,3789,4094,4105] 0 dM) [0,1])=List.map (fun _=>some eU) [0,1]:=by kernel_rfl
end Go.Am
