import Derived.Test.YtjgfemidkffdjaaGreatH32
set_option linter.all false
namespace Go.Am
open Go.Proofs
theorem VZ:(List.map (aj Tryz.prog plan ai ah 2000 20 true [9,11,12,13,80,1072,1421,1422,1457,1463,1768] 1 gm) [0,1])=List.map (fun _=>some iC) [0,1]:=by kernel_rfl
theorem Wp:(List.map (aj Tryz.prog plan ai ah 2000 20 true [9,11,12,13,80,1072,1421,1422,1457,1463,1768] 5 gm) [4])=List.map (fun _=>some iC) [4]:=by kernel_rfl
theorem aaD:iU Tryz.prog plan bD 3099 25 3 mg.2=some mD:=by kernel_rfl
end Go.Am
namespace Go.Am
open Go.Proofs
theorem MC:Aw Tryz.prog plan ai ah 113 [9,11,2817,3095,3264,3265,3266,3267] uu.1=some jM:=by kernel_rfl
end Go.Am
namespace Go.Am
open Go.Proofs
theorem FV:eG Tryz.prog plan ai ah 2000 20 1 [9,11,2817,3095,3264,3265] 3 jM=some (List.replicate 24 (some lK)):=by kernel_rfl
end Go.Am
namespace Go.Am
open Go.Proofs
theorem Qr:(List.map (aj Tryz.prog plan ai ah 2000 20 true [9,11,12,13,80,1072,1421,1783,2143,2144,2214,3751,3783,3789,4094] 2 dL) [2,3])=List.map (fun _=>some eP) [2,3]:=by kernel_rfl
theorem Qw:(List.map (aj Tryz.prog plan ai ah 2000 20 true [9,11,12,13,80,1072,1421,1783,2143,2144,2214,3751,3783,3789,4094] 3 dL) [4])=List.map (fun _=>some eP) [4]:=by kernel_rfl
theorem QG:(List.map (aj Tryz.prog plan ai ah 2000 20 true [9,11,12,13,80,1072,1421,1783,2143,2144,2214,3751,3783,3789,4094,4105] 1 dM) [0,1])=List.map (fun _=>some eU) [0,1]:=by kernel_rfl
theorem Rk:(List.map (aj Tryz.prog plan ai ah 2000 20 true [9,11,12,13,80,1072,1421,1783,2143,2144,2214,3751,3783,3789,4094,4121] 4 dN) [0,1])=List.map (fun _=>some eX) [0,1]:=by kernel_rfl
theorem Ro:(List.map (aj Tryz.prog plan ai ah 2000 20 true [9,11,12,13,80,1072,1421,1783,2143,2144,2214,3751,3783,3789,4094,4121] 5 dN) [0,1])=List.map (fun _=>some eX) [0,1]:=by kernel_rfl
end Go.Am
