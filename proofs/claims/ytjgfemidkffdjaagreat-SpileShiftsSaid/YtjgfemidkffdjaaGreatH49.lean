import Derived.Test.YtjgfemidkffdjaaGreatH32
set_option linter.all false
namespace Go.Am
open Go.Proofs
theorem Q8:(List.map (aj Tryz.prog plan ai ah 2000 20 true [9,11,12,13,80,1072,1421,1783,2143,2144,2214,3751,3783,3789,4094,4121] 2 dN) [0,1])=List.map (fun _=>some eX) [0,1]:=by kernel_rfl
theorem Q9:(List.map (aj Tryz.prog plan ai ah 2000 20 true [9,11,12,13,80,1072,1421,1783,2143,2144,2214,3751,3783,3789,4094,4121] 2 dN) [2,3])=List.map (fun _=>some eX) [2,3]:=by kernel_rfl
theorem Rf:(List.map (aj Tryz.prog plan ai ah 2000 20 true [9,11,12,13,80,1072,1421,1783,2143,2144,2214,3751,3783,3789,4094,4121] 2 dN) [4])=List.map (fun _=>some eX) [4]:=by kernel_rfl
theorem Rh:(List.map (aj Tryz.prog plan ai ah 2000 20 true [9,11,12,13,80,1072,1421,1783,2143,2144,2214,3751,3783,3789,4094,4121] 3 dN) [0,1])=List.map (fun _=>some eX) [0,1]:=by kernel_rfl
theorem Ri:(List.map (aj Tryz.prog plan ai ah 2000 20 true [9,11,12,13,80,1072,1421,1783,2143,2144,2214,3751,3783,3789,4094,4121] 3 dN) [2,3])=List.map (fun _=>some eX) [2,3]:=by kernel_rfl
theorem Rj:(List.map (aj Tryz.prog plan ai ah 2000 20 true [9,11,12,13,80,1072,1421,1783,2143,2144,2214,3751,3783,3789,4094,4121] 3 dN) [4])=List.map (fun _=>some eX) [4]:=by kernel_rfl
theorem Rk:(List.map (aj Tryz.prog plan ai ah 2000 20 true [9,11,12,13,80,1072,1421,1783,2143,2144,2214,3751,3783,3789,4094,4121] 4 dN) [0,1])=List.map (fun _=>some eX) [0,1]:=by kernel_rfl
theorem Rl:(List.map (aj Tryz.prog plan ai ah 2000 20 true [9,11,12,13,80,1072,1421,1783,2143,2144,2214,3751,3783,3789,4094,4121] 4 dN) [2,3])=List.map (fun _=>some eX) [2,3]:=by kernel_rfl
theorem Rn:(List.map (aj Tryz.prog plan ai ah 2000 20 true [9,11,12,13,80,1072,1421,1783,2143,2144,2214,3751,3783,3789,4094,4121] 4 dN) [4])=List.map (fun _=>some eX) [4]:=by kernel_rfl
theorem Ro:(List.map (aj Tryz.prog plan ai ah 2000 20 true [9,11,12,13,80,1072,1421,1783,2143,2144,2214,3751,3783,3789,4094,4121] 5 dN) [0,1])=List.map (fun _=>some eX) [0,1]:=by kernel_rfl
theorem Rq:(List.map (aj Tryz.prog plan ai ah 2000 20 true [9,11,12,13,80,1072,1421,1783,2143,2144,2214,3751,3783,3789,4094,4121] 5 dN) [2,3])=List.map (fun _=>some eX) [2,3]:=by kernel_rfl
theorem Rt:(List.map (aj Tryz.prog plan ai ah 2000 20 true [9,11,12,13,80,1072,1421,1783,2143,2144,2214,3751,3783,3789,4094,4121] 5 dN) [4])=List.map (fun _=>some eX) [4]:=by kernel_rfl
theorem ac7:stepS Tryz.prog plan ai ah 5968 [9,11,12,13,80,1072,1421,1783,2143,2144,2214,4140,4270,4272,4891,4894,4895,4896,4931,4934,4940] eX=some Uo:=by kernel_rfl
end Go.Am
