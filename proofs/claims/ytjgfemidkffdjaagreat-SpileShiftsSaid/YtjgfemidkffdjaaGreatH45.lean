import Derived.Test.YtjgfemidkffdjaaGreatH32
set_option linter.all false
namespace Go.Am
open Go.Proofs
theorem ac3:TQ Tryz.prog plan bD 3584 16 3582 [-3,6] [9,11,12,13,80,1072,1421,1783,2143,2144,2214,3266,3303,3579,3580,3581,3582,3746,3749] uw.2=some Un:=by kernel_rfl
theorem ac4:stepS Tryz.prog plan ai ah 2865 [9,11,12,13,80,1072,1421,1783,2143,2144,2214,3751,3783,3789,4094,4095,4096] Un=some dL:=by kernel_rfl
theorem aaR:jc Tryz.prog dL=some 6:=by kernel_rfl
theorem aaS:(List.range 6).map (lV Tryz.prog plan ai ah 2000 dL)=(List.range 6).map fun _=>some 5:=by kernel_rfl
theorem Qk:(List.map (aj Tryz.prog plan ai ah 2000 20 true [9,11,12,13,80,1072,1421,1783,2143,2144,2214,3751,3783,3789,4094] 0 dL) [0,1])=List.map (fun _=>some eP) [0,1]:=by kernel_rfl
theorem Ql:(List.map (aj Tryz.prog plan ai ah 2000 20 true [9,11,12,13,80,1072,1421,1783,2143,2144,2214,3751,3783,3789,4094] 0 dL) [2,3])=List.map (fun _=>some eP) [2,3]:=by kernel_rfl
theorem Qm:(List.map (aj Tryz.prog plan ai ah 2000 20 true [9,11,12,13,80,1072,1421,1783,2143,2144,2214,3751,3783,3789,4094] 0 dL) [4])=List.map (fun _=>some eP) [4]:=by kernel_rfl
theorem Qn:(List.map (aj Tryz.prog plan ai ah 2000 20 true [9,11,12,13,80,1072,1421,1783,2143,2144,2214,3751,3783,3789,4094] 1 dL) [0,1])=List.map (fun _=>some eP) [0,1]:=by kernel_rfl
theorem Qo:(List.map (aj Tryz.prog plan ai ah 2000 20 true [9,11,12,13,80,1072,1421,1783,2143,2144,2214,3751,3783,3789,4094] 1 dL) [2,3])=List.map (fun _=>some eP) [2,3]:=by kernel_rfl
theorem Qp:(List.map (aj Tryz.prog plan ai ah 2000 20 true [9,11,12,13,80,1072,1421,1783,2143,2144,2214,3751,3783,3789,4094] 1 dL) [4])=List.map (fun _=>some eP) [4]:=by kernel_rfl
theorem Qq:(List.map (aj Tryz.prog plan ai ah 2000 20 true [9,11,12,13,80,1072,1421,1783,2143,2144,2214,3751,3783,3789,4094] 2 dL) [0,1])=List.map (fun _=>some eP) [0,1]:=by kernel_rfl
theorem Qr:(List.map (aj Tryz.prog plan ai ah 2000 20 true [9,11,12,13,80,1072,1421,1783,2143,2144,2214,3751,3783,3789,4094] 2 dL) [2,3])=List.map (fun _=>some eP) [2,3]:=by kernel_rfl
theorem Qs:(List.map (aj Tryz.prog plan ai ah 2000 20 true [9,11,12,13,80,1072,1421,1783,2143,2144,2214,3751,3783,3789,4094] 2 dL) [4])=List.map (fun _=>some eP) [4]:=by kernel_rfl
end Go.Am
