import Derived.Test.YtjgfemidkffdjaaGreatH32
set_option linter.all false
namespace Go.Am
open Go.Proofs
theorem QU:(List.map (aj Tryz.prog plan ai ah 2000 20 true [9,11,12,13,80,1072,1421,1783,2143,2144,2214,3751,3783,3789,4094,4105] 4 dM) [4])=List.map (fun _=>some eU) [4]:=by kernel_rfl
theorem QV:(List.map (aj Tryz.prog plan ai ah 2000 20 true [9,11,12,13,80,1072,1421,1783,2143,2144,2214,3751,3783,3789,4094,4105] 5 dM) [0,1])=List.map (fun _=>some eU) [0,1]:=by kernel_rfl
theorem QW:(List.map (aj Tryz.prog plan ai ah 2000 20 true [9,11,12,13,80,1072,1421,1783,2143,2144,2214,3751,3783,3789,4094,4105] 5 dM) [2,3])=List.map (fun _=>some eU) [2,3]:=by kernel_rfl
theorem QX:(List.map (aj Tryz.prog plan ai ah 2000 20 true [9,11,12,13,80,1072,1421,1783,2143,2144,2214,3751,3783,3789,4094,4105] 5 dM) [4])=List.map (fun _=>some eU) [4]:=by kernel_rfl
theorem ac6:stepS Tryz.prog plan ai ah 154 [9,11,12,13,80,1072,1421,1783,2143,2144,2214,3751,3783,3789,4094,4121,4125,4126] eU=some dN:=by kernel_rfl
theorem aaV:jc Tryz.prog dN=some 6:=by kernel_rfl
theorem aaW:(List.range 6).map (lV Tryz.prog plan ai ah 2000 dN)=(List.range 6).map fun _=>some 5:=by kernel_rfl
theorem QY:(List.map (aj Tryz.prog plan ai ah 2000 20 true [9,11,12,13,80,1072,1421,1783,2143,2144,2214,3751,3783,3789,4094,4121] 0 dN) [0,1])=List.map (fun _=>some eX) [0,1]:=by kernel_rfl
theorem QZ:(List.map (aj Tryz.prog plan ai ah 2000 20 true [9,11,12,13,80,1072,1421,1783,2143,2144,2214,3751,3783,3789,4094,4121] 0 dN) [2,3])=List.map (fun _=>some eX) [2,3]:=by kernel_rfl
theorem Q3:(List.map (aj Tryz.prog plan ai ah 2000 20 true [9,11,12,13,80,1072,1421,1783,2143,2144,2214,3751,3783,3789,4094,4121] 0 dN) [4])=List.map (fun _=>some eX) [4]:=by kernel_rfl
theorem Q4:(List.map (aj Tryz.prog plan ai ah 2000 20 true [9,11,12,13,80,1072,1421,1783,2143,2144,2214,3751,3783,3789,4094,4121] 1 dN) [0,1])=List.map (fun _=>some eX) [0,1]:=by kernel_rfl
theorem Q5:(List.map (aj Tryz.prog plan ai ah 2000 20 true [9,11,12,13,80,1072,1421,1783,2143,2144,2214,3751,3783,3789,4094,4121] 1 dN) [2,3])=List.map (fun _=>some eX) [2,3]:=by kernel_rfl
theorem Q7:(List.map (aj Tryz.prog plan ai ah 2000 20 true [9,11,12,13,80,1072,1421,1783,2143,2144,2214,3751,3783,3789,4094,4121] 1 dN) [4])=List.map (fun _=>some eX) [4]:=by kernel_rfl
end Go.Am
